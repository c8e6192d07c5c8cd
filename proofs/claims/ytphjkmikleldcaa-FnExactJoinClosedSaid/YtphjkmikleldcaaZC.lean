/-
  Contracts: joins of two closed walks; CountJoins in the model.
-/
import Derived.Test.YtphjkmikleldcaaZ3
import Derived.Deep.RegionHeld3
namespace Go.Proofs.Ytphjkmikleldcaa
open Go.RowKit

def endI (n j : Nat) (back : Bool) : Nat := if back then (j + 1) % n else (j + n - 1) % n
def jB (W a b : Int) (ps qs : List Int) (i j : Nat) (back : Bool) : Bool := leapB W a b (ps.getD i 0) (qs.getD j 0) && leapB W a b (qs.getD (endI qs.length j back) 0) (ps.getD ((i + 1) % ps.length) 0)
abbrev Trip := Nat × Nat × Bool
/-- The joins at i and j: k of the two ways. -/
def tripTo (W a b : Int) (ps qs : List Int) (i j : Nat) : Nat → List Trip
  | 0 => []
  | 1 => if jB W a b ps qs i j false then [(i, j, false)] else []
  | _ => (if jB W a b ps qs i j false then [(i, j, false)] else []) ++ if jB W a b ps qs i j true then [(i, j, true)] else []
def rowTo (W a b : Int) (ps qs : List Int) (i n : Nat) : List Trip := (List.range n).flatMap fun j => tripTo W a b ps qs i j 2
def allTo (W a b : Int) (ps qs : List Int) (m : Nat) : List Trip := (List.range m).flatMap fun i => rowTo W a b ps qs i qs.length
def joinsL (W a b : Int) (ps qs : List Int) : List Trip := allTo W a b ps qs ps.length
theorem trip_len (W a b : Int) (ps qs : List Int) (i j k : Nat) : (tripTo W a b ps qs i j k).length ≤ 2 := by
  unfold tripTo
  split
  · simp
  · split <;> simp
  · rw [List.length_append]; split <;> split <;> simp
theorem row_len (W a b : Int) (ps qs : List Int) (i : Nat) : ∀ n, (rowTo W a b ps qs i n).length ≤ 2 * n
  | 0 => by simp [rowTo]
  | n + 1 => by
    have := row_len W a b ps qs i n
    have := trip_len W a b ps qs i n 2
    rw [rowTo, List.range_succ, List.flatMap_append, List.length_append] at *
    simp only [List.flatMap_cons, List.flatMap_nil, List.append_nil] at *
    omega
theorem row_succ (W a b : Int) (ps qs : List Int) (i n : Nat) : rowTo W a b ps qs i (n + 1) = rowTo W a b ps qs i n ++ tripTo W a b ps qs i n 2 := by
  rw [rowTo, List.range_succ, List.flatMap_append]; simp [rowTo]
theorem all_succ (W a b : Int) (ps qs : List Int) (m : Nat) : allTo W a b ps qs (m + 1) = allTo W a b ps qs m ++ rowTo W a b ps qs m qs.length := by
  rw [allTo, List.range_succ, List.flatMap_append]; simp [allTo]
theorem all_len (W a b : Int) (ps qs : List Int) : ∀ m, (allTo W a b ps qs m).length ≤ 2 * qs.length * m
  | 0 => by simp [allTo]
  | m + 1 => by
    have h1 := all_len W a b ps qs m
    have h2 := row_len W a b ps qs m qs.length
    rw [all_succ, List.length_append, Nat.mul_succ]
    omega
/-- What is found before i, j and k. -/
def accL (W a b : Int) (ps qs : List Int) (i j k : Nat) : List Trip := allTo W a b ps qs i ++ rowTo W a b ps qs i j ++ tripTo W a b ps qs i j k
theorem acc_start (W a b : Int) (ps qs : List Int) (i : Nat) : accL W a b ps qs i 0 0 = allTo W a b ps qs i := by simp [accL, rowTo, tripTo]
theorem acc_row (W a b : Int) (ps qs : List Int) (i j : Nat) : accL W a b ps qs i (j + 1) 0 = accL W a b ps qs i j 2 := by
  rw [accL, accL, row_succ]; simp [tripTo]
theorem acc_end (W a b : Int) (ps qs : List Int) (i : Nat) : accL W a b ps qs i qs.length 0 = allTo W a b ps qs (i + 1) := by
  rw [accL, all_succ]; simp [tripTo]
def wayB (k : Nat) : Bool := k == 1
theorem acc_yes {W a b : Int} {ps qs : List Int} {i j k : Nat} (hk : k < 2) (h : jB W a b ps qs i j (wayB k) = true) : accL W a b ps qs i j (k + 1) = accL W a b ps qs i j k ++ [(i, j, wayB k)] := by
  have h2 : k = 0 ∨ k = 1 := by omega
  rcases h2 with rfl | rfl
  · have h' : jB W a b ps qs i j false = true := h
    simp [accL, tripTo, h', wayB]
  · have h' : jB W a b ps qs i j true = true := h
    simp [accL, tripTo, h', wayB]
theorem acc_no {W a b : Int} {ps qs : List Int} {i j k : Nat} (hk : k < 2) (h : jB W a b ps qs i j (wayB k) = false) : accL W a b ps qs i j (k + 1) = accL W a b ps qs i j k := by
  have h2 : k = 0 ∨ k = 1 := by omega
  rcases h2 with rfl | rfl
  · have h' : jB W a b ps qs i j false = false := h
    simp [accL, tripTo, h']
  · have h' : jB W a b ps qs i j true = false := h
    simp [accL, tripTo, h']
theorem acc_len {W a b : Int} {ps qs : List Int} {i j k : Nat} (hi : i < 64) (hj : j ≤ 64) (hq : qs.length ≤ 64) : (accL W a b ps qs i j k).length ≤ 20000 := by
  have h1 := all_len W a b ps qs i
  have h2 := row_len W a b ps qs i j
  have h3 := trip_len W a b ps qs i j k
  have h4 : 2 * qs.length * i ≤ 2 * 64 * 64 := Nat.mul_le_mul (by omega) (by omega)
  rw [accL, List.length_append, List.length_append]
  omega
def okTwo2 (W H : Int) (xs : List Int) (a b : Int) (ps qs : List Int) : Bool := okWk W H xs a b ps && okWk W H xs a b qs && endB W a b ps && endB W a b qs && apartB qs ps
def joinV (W H : Int) (xs : List Int) (a b : Int) (ps qs : List Int) : Int := if okTwo2 W H xs a b ps qs then ((joinsL W a b ps qs).length : Int) else 0

set_option maxRecDepth 100000 in
set_option maxHeartbeats 4000000 in
theorem blTwo_any (W H : Int) (A : Option Addr) (n c : Nat) (xs : List Int) (a b : Int) (A2 : Option Addr) (m c2 : Nat) (ps : List Int) (A3 : Option Addr) (k c3 : Nat) (qs : List Int) (w : World) (ha : Rd w A n xs) (hp : Rd w A2 m ps) (hcap : m ≤ c2) (hq : Rd w A3 k qs) (hcapq : k ≤ c3) :
    Calls Try.prog 65 #[brd W H A n c, lpr a b, .slice A2 m c2, .slice A3 k c3] w fun e w' => e = .returned (.bool (okTwo2 W H xs a b ps qs)) ∧ Below w.heap.size w w' := by
  have HPL := Lib.hid hp.1
  have m9 := hp.2.1
  obtain ⟨W2, hW2⟩ : ∃ W2, W2 = (w.alloc (.cells #[.int .i64 W, .int .i64 H, .slice A n c] 30)).alloc (.cells #[.int .i64 a, .int .i64 b] 32) := ⟨_, rfl⟩
  have a0 : W2.cell? ⟨w.heap.size, 0, none⟩ = some (.int .i64 W) := by rw [hW2]; go_simp
  have a1 : W2.cell? ⟨w.heap.size, 1, none⟩ = some (.int .i64 H) := by rw [hW2]; go_simp
  have a2 : W2.cell? ⟨w.heap.size, 2, none⟩ = some (.slice A n c) := by rw [hW2]; go_simp
  have l0 : W2.cell? ⟨w.heap.size + 1, 0, none⟩ = some (.int .i64 a) := by rw [hW2]; go_simp
  have l1 : W2.cell? ⟨w.heap.size + 1, 1, none⟩ = some (.int .i64 b) := by rw [hW2]; go_simp
  have al : w.heap.size < W2.heap.size := by rw [hW2]; simp; omega
  have ll : w.heap.size + 1 < W2.heap.size := by rw [hW2]; simp
  have B := Lib.hid (show Below w.heap.size w W2 by rw [hW2]; exact ((Below.refl _ _).alloc (Nat.le_refl _) _).alloc (by simp) _)
  have R := Lib.hid (ha.keep B.out); have RP := Lib.hid (hp.keep B.out); have RQ := Lib.hid (hq.keep B.out)
  clear ha hp hq
  cases hop : okWk W H xs a b ps with
  | false =>
    have HOP := Lib.hid hop
    clear hop
    go_enter Try.func65, Try.ntmps65
    go_wp2_with fail
    rw [← hW2]
    clear hW2
    refine (blWalk_any W H A n c xs a b A2 m c2 ps _ R.out RP.out hcap).mono ?_
    rw [HOP.out]
    rintro e wv ⟨rfl, hb⟩
    replace a0 := cell_keep a0 al hb; replace a1 := cell_keep a1 al hb; replace a2 := cell_keep a2 al hb; replace al := lt_keep al hb
    replace l0 := cell_keep l0 ll hb; replace l1 := cell_keep l1 ll hb; replace ll := lt_keep ll hb
    replace R := Lib.hid (R.out.keep hb); replace RP := Lib.hid (RP.out.keep hb)
    replace B := Lib.hid (below_next B.out hb)
    replace RQ := Lib.hid (RQ.out.keep hb)
    clear hb
    clear a0 a1 a2 l0 l1 al ll
    go_wp2
    go_ret
    exact ⟨ret_bool (by rw [okTwo2, HOP.out]; simp), B.out⟩
  | true =>
    have HOP := Lib.hid hop
    clear hop
    cases hoq : okWk W H xs a b qs with
    | false =>
      have HOQ := Lib.hid hoq
      clear hoq
      go_enter Try.func65, Try.ntmps65
      go_wp2_with fail
      rw [← hW2]
      clear hW2
      refine (blWalk_any W H A n c xs a b A2 m c2 ps _ R.out RP.out hcap).mono ?_
      rw [HOP.out]
      rintro e wv ⟨rfl, hb⟩
      replace a0 := cell_keep a0 al hb; replace a1 := cell_keep a1 al hb; replace a2 := cell_keep a2 al hb; replace al := lt_keep al hb
      replace l0 := cell_keep l0 ll hb; replace l1 := cell_keep l1 ll hb; replace ll := lt_keep ll hb
      replace R := Lib.hid (R.out.keep hb); replace RP := Lib.hid (RP.out.keep hb)
      replace B := Lib.hid (below_next B.out hb)
      replace RQ := Lib.hid (RQ.out.keep hb)
      clear hb
      go_wp2_with fail
      refine (blWalk_any W H A n c xs a b A3 k c3 qs _ R.out RQ.out hcapq).mono ?_
      rw [HOQ.out]
      rintro e wv ⟨rfl, hb⟩
      replace a0 := cell_keep a0 al hb; replace a1 := cell_keep a1 al hb; replace a2 := cell_keep a2 al hb; replace al := lt_keep al hb
      replace l0 := cell_keep l0 ll hb; replace l1 := cell_keep l1 ll hb; replace ll := lt_keep ll hb
      replace R := Lib.hid (R.out.keep hb); replace RP := Lib.hid (RP.out.keep hb)
      replace B := Lib.hid (below_next B.out hb)
      replace RQ := Lib.hid (RQ.out.keep hb)
      clear hb
      clear a0 a1 a2 l0 l1 al ll
      go_wp2
      go_ret
      exact ⟨ret_bool (by rw [okTwo2, HOQ.out]; simp), B.out⟩
    | true =>
      have HOQ := Lib.hid hoq
      clear hoq
      cases hep : endB W a b ps with
      | false =>
        have HEP := Lib.hid hep
        clear hep
        go_enter Try.func65, Try.ntmps65
        go_wp2_with fail
        rw [← hW2]
        clear hW2
        refine (blWalk_any W H A n c xs a b A2 m c2 ps _ R.out RP.out hcap).mono ?_
        rw [HOP.out]
        rintro e wv ⟨rfl, hb⟩
        replace a0 := cell_keep a0 al hb; replace a1 := cell_keep a1 al hb; replace a2 := cell_keep a2 al hb; replace al := lt_keep al hb
        replace l0 := cell_keep l0 ll hb; replace l1 := cell_keep l1 ll hb; replace ll := lt_keep ll hb
        replace R := Lib.hid (R.out.keep hb); replace RP := Lib.hid (RP.out.keep hb)
        replace B := Lib.hid (below_next B.out hb)
        replace RQ := Lib.hid (RQ.out.keep hb)
        clear hb
        go_wp2_with fail
        refine (blWalk_any W H A n c xs a b A3 k c3 qs _ R.out RQ.out hcapq).mono ?_
        rw [HOQ.out]
        rintro e wv ⟨rfl, hb⟩
        replace a0 := cell_keep a0 al hb; replace a1 := cell_keep a1 al hb; replace a2 := cell_keep a2 al hb; replace al := lt_keep al hb
        replace l0 := cell_keep l0 ll hb; replace l1 := cell_keep l1 ll hb; replace ll := lt_keep ll hb
        replace R := Lib.hid (R.out.keep hb); replace RP := Lib.hid (RP.out.keep hb)
        replace B := Lib.hid (below_next B.out hb)
        replace RQ := Lib.hid (RQ.out.keep hb)
        clear hb
        go_wp2_with fail
        refine (blClosed_any W H A n c a b A2 m c2 ps _ RP.out (ok_W HOP.out) (ok_64 HOP.out)).mono ?_
        rw [HEP.out]
        rintro e wv ⟨rfl, hb⟩
        replace a0 := cell_keep a0 al hb; replace a1 := cell_keep a1 al hb; replace a2 := cell_keep a2 al hb; replace al := lt_keep al hb
        replace l0 := cell_keep l0 ll hb; replace l1 := cell_keep l1 ll hb; replace ll := lt_keep ll hb
        replace R := Lib.hid (R.out.keep hb); replace RP := Lib.hid (RP.out.keep hb)
        replace B := Lib.hid (below_next B.out hb)
        replace RQ := Lib.hid (RQ.out.keep hb)
        clear hb
        clear a0 a1 a2 l0 l1 al ll
        go_wp2
        go_ret
        exact ⟨ret_bool (by rw [okTwo2, HEP.out]; simp), B.out⟩
      | true =>
        have HEP := Lib.hid hep
        clear hep
        cases heq : endB W a b qs with
        | false =>
          have HEQ := Lib.hid heq
          clear heq
          go_enter Try.func65, Try.ntmps65
          go_wp2_with fail
          rw [← hW2]
          clear hW2
          refine (blWalk_any W H A n c xs a b A2 m c2 ps _ R.out RP.out hcap).mono ?_
          rw [HOP.out]
          rintro e wv ⟨rfl, hb⟩
          replace a0 := cell_keep a0 al hb; replace a1 := cell_keep a1 al hb; replace a2 := cell_keep a2 al hb; replace al := lt_keep al hb
          replace l0 := cell_keep l0 ll hb; replace l1 := cell_keep l1 ll hb; replace ll := lt_keep ll hb
          replace R := Lib.hid (R.out.keep hb); replace RP := Lib.hid (RP.out.keep hb)
          replace B := Lib.hid (below_next B.out hb)
          replace RQ := Lib.hid (RQ.out.keep hb)
          clear hb
          go_wp2_with fail
          refine (blWalk_any W H A n c xs a b A3 k c3 qs _ R.out RQ.out hcapq).mono ?_
          rw [HOQ.out]
          rintro e wv ⟨rfl, hb⟩
          replace a0 := cell_keep a0 al hb; replace a1 := cell_keep a1 al hb; replace a2 := cell_keep a2 al hb; replace al := lt_keep al hb
          replace l0 := cell_keep l0 ll hb; replace l1 := cell_keep l1 ll hb; replace ll := lt_keep ll hb
          replace R := Lib.hid (R.out.keep hb); replace RP := Lib.hid (RP.out.keep hb)
          replace B := Lib.hid (below_next B.out hb)
          replace RQ := Lib.hid (RQ.out.keep hb)
          clear hb
          go_wp2_with fail
          refine (blClosed_any W H A n c a b A2 m c2 ps _ RP.out (ok_W HOP.out) (ok_64 HOP.out)).mono ?_
          rw [HEP.out]
          rintro e wv ⟨rfl, hb⟩
          replace a0 := cell_keep a0 al hb; replace a1 := cell_keep a1 al hb; replace a2 := cell_keep a2 al hb; replace al := lt_keep al hb
          replace l0 := cell_keep l0 ll hb; replace l1 := cell_keep l1 ll hb; replace ll := lt_keep ll hb
          replace R := Lib.hid (R.out.keep hb); replace RP := Lib.hid (RP.out.keep hb)
          replace B := Lib.hid (below_next B.out hb)
          replace RQ := Lib.hid (RQ.out.keep hb)
          clear hb
          go_wp2_with fail
          refine (blClosed_any W H A n c a b A3 k c3 qs _ RQ.out (ok_W HOP.out) (ok_64 HOQ.out)).mono ?_
          rw [HEQ.out]
          rintro e wv ⟨rfl, hb⟩
          replace a0 := cell_keep a0 al hb; replace a1 := cell_keep a1 al hb; replace a2 := cell_keep a2 al hb; replace al := lt_keep al hb
          replace l0 := cell_keep l0 ll hb; replace l1 := cell_keep l1 ll hb; replace ll := lt_keep ll hb
          replace R := Lib.hid (R.out.keep hb); replace RP := Lib.hid (RP.out.keep hb)
          replace B := Lib.hid (below_next B.out hb)
          replace RQ := Lib.hid (RQ.out.keep hb)
          clear hb
          clear a0 a1 a2 l0 l1 al ll
          go_wp2
          go_ret
          exact ⟨ret_bool (by rw [okTwo2, HEQ.out]; simp), B.out⟩
        | true =>
          have HEQ := Lib.hid heq
          clear heq
          go_enter Try.func65, Try.ntmps65
          go_wp2_with fail
          rw [← hW2]
          clear hW2
          refine (blWalk_any W H A n c xs a b A2 m c2 ps _ R.out RP.out hcap).mono ?_
          rw [HOP.out]
          rintro e wv ⟨rfl, hb⟩
          replace a0 := cell_keep a0 al hb; replace a1 := cell_keep a1 al hb; replace a2 := cell_keep a2 al hb; replace al := lt_keep al hb
          replace l0 := cell_keep l0 ll hb; replace l1 := cell_keep l1 ll hb; replace ll := lt_keep ll hb
          replace R := Lib.hid (R.out.keep hb); replace RP := Lib.hid (RP.out.keep hb)
          replace B := Lib.hid (below_next B.out hb)
          replace RQ := Lib.hid (RQ.out.keep hb)
          clear hb
          go_wp2_with fail
          refine (blWalk_any W H A n c xs a b A3 k c3 qs _ R.out RQ.out hcapq).mono ?_
          rw [HOQ.out]
          rintro e wv ⟨rfl, hb⟩
          replace a0 := cell_keep a0 al hb; replace a1 := cell_keep a1 al hb; replace a2 := cell_keep a2 al hb; replace al := lt_keep al hb
          replace l0 := cell_keep l0 ll hb; replace l1 := cell_keep l1 ll hb; replace ll := lt_keep ll hb
          replace R := Lib.hid (R.out.keep hb); replace RP := Lib.hid (RP.out.keep hb)
          replace B := Lib.hid (below_next B.out hb)
          replace RQ := Lib.hid (RQ.out.keep hb)
          clear hb
          go_wp2_with fail
          refine (blClosed_any W H A n c a b A2 m c2 ps _ RP.out (ok_W HOP.out) (ok_64 HOP.out)).mono ?_
          rw [HEP.out]
          rintro e wv ⟨rfl, hb⟩
          replace a0 := cell_keep a0 al hb; replace a1 := cell_keep a1 al hb; replace a2 := cell_keep a2 al hb; replace al := lt_keep al hb
          replace l0 := cell_keep l0 ll hb; replace l1 := cell_keep l1 ll hb; replace ll := lt_keep ll hb
          replace R := Lib.hid (R.out.keep hb); replace RP := Lib.hid (RP.out.keep hb)
          replace B := Lib.hid (below_next B.out hb)
          replace RQ := Lib.hid (RQ.out.keep hb)
          clear hb
          go_wp2_with fail
          refine (blClosed_any W H A n c a b A3 k c3 qs _ RQ.out (ok_W HOP.out) (ok_64 HOQ.out)).mono ?_
          rw [HEQ.out]
          rintro e wv ⟨rfl, hb⟩
          replace a0 := cell_keep a0 al hb; replace a1 := cell_keep a1 al hb; replace a2 := cell_keep a2 al hb; replace al := lt_keep al hb
          replace l0 := cell_keep l0 ll hb; replace l1 := cell_keep l1 ll hb; replace ll := lt_keep ll hb
          replace R := Lib.hid (R.out.keep hb); replace RP := Lib.hid (RP.out.keep hb)
          replace B := Lib.hid (below_next B.out hb)
          replace RQ := Lib.hid (RQ.out.keep hb)
          clear hb
          clear a0 a1 a2 l0 l1 al ll
          go_wp2
          go_loopw [39] (fun i wr => ∃ t : Nat, t ≤ m ∧ i = .int .i64 t ∧ (ps.take t).all (fun x => !qs.contains x) = true ∧ Below wv.heap.size wv wr) (fun i _ => m - (intOf i).toNat)
          case atStart => exact ⟨0, Nat.zero_le _, rfl, by simp, Below.refl _ _⟩
          case round =>
            obtain ⟨t, ht, rfl, hall, hbw⟩ := hrel
            have HALL := Lib.hid hall
            clear hall
            by_cases hlt : t < m
            · obtain ⟨bb, oo, x, rfl, hg1, hx, x0⟩ := RP.out.at_ hlt
              have HX := Lib.hid hx
              replace x0 := cell_keep x0 hg1 hbw
              have HB := Lib.hid hbw
              have RQW := Lib.hid (RQ.out.keep hbw)
              clear hx hbw
              cases hs : qs.contains x with
              | true =>
                have HS := Lib.hid hs
                clear hs
                go_wp2_with fail
                refine (l1Has_any _ _ _ _ qs _ RQW.out).mono ?_
                rw [HS.out]
                rintro e wz ⟨rfl, hb⟩
                replace HB := Lib.hid (below_next HB.out hb)
                clear hb
                go_wp2
                go_ret
                exact ⟨ret_bool (by rw [okTwo2, show apartB qs ps = false from by (rw [apartB, List.all_eq_false]; exact ⟨x, List.mem_of_getElem? HX.out, by rw [HS.out]; simp⟩), Bool.and_false]), B.out.trans (HB.out.mono B.out.size)⟩
              | false =>
                have HS := Lib.hid hs
                clear hs
                go_wp2_with fail
                refine (l1Has_any _ _ _ _ qs _ RQW.out).mono ?_
                rw [HS.out]
                rintro e wz ⟨rfl, hb⟩
                replace HB := Lib.hid (below_next HB.out hb)
                clear hb
                go_wp2
                go_roundw
                case rel => exact ⟨t + 1, by omega, by go_num, by (rw [List.take_add_one, HX.out, List.all_append, HALL.out]; show (true && (!qs.contains x && true)) = true; rw [HS.out]; rfl), HB.out⟩
                case measure => simp [intOf]; omega
            · go_wp2
              go_ret
              exact ⟨ret_bool (by
                have h := HALL.out
                rw [List.take_of_length_le (by have := HPL.out; omega)] at h
                rw [okTwo2, HOP.out, HOQ.out, HEP.out, HEQ.out, show apartB qs ps = true from h]; rfl), B.out.trans (hbw.mono B.out.size)⟩

set_option maxRecDepth 100000 in
set_option maxHeartbeats 4000000 in
theorem blJoin_any (W H : Int) (A : Option Addr) (n c : Nat) (a b : Int) (A2 : Option Addr) (m c2 : Nat) (ps : List Int) (A3 : Option Addr) (k c3 : Nat) (qs : List Int) (i j : Nat) (back : Bool) (w : World) (hp : Rd w A2 m ps) (hq : Rd w A3 k qs) (hW : 1 ≤ W ∧ W ≤ 8) (hp64 : ∀ x ∈ ps, 0 ≤ x ∧ x < 64) (hq64 : ∀ x ∈ qs, 0 ≤ x ∧ x < 64) (hm : m ≤ 64) (hk : k ≤ 64) (hi : i < m) (hj : j < k) :
    Calls Try.prog 66 #[brd W H A n c, lpr a b, .slice A2 m c2, .slice A3 k c3, .int .i64 (i : Int), .int .i64 (j : Int), .bool back] w fun e w' => e = .returned (.bool (jB W a b ps qs i j back)) ∧ Below w.heap.size w w' := by
  have HPL := Lib.hid hp.1; have HQL := Lib.hid hq.1
  have m9 := hp.2.1; have k9 := hq.2.1
  obtain ⟨W2, hW2⟩ : ∃ W2, W2 = (w.alloc (.cells #[.int .i64 W, .int .i64 H, .slice A n c] 30)).alloc (.cells #[.int .i64 a, .int .i64 b] 32) := ⟨_, rfl⟩
  have a0 : W2.cell? ⟨w.heap.size, 0, none⟩ = some (.int .i64 W) := by rw [hW2]; go_simp
  have a1 : W2.cell? ⟨w.heap.size, 1, none⟩ = some (.int .i64 H) := by rw [hW2]; go_simp
  have a2 : W2.cell? ⟨w.heap.size, 2, none⟩ = some (.slice A n c) := by rw [hW2]; go_simp
  have l0 : W2.cell? ⟨w.heap.size + 1, 0, none⟩ = some (.int .i64 a) := by rw [hW2]; go_simp
  have l1 : W2.cell? ⟨w.heap.size + 1, 1, none⟩ = some (.int .i64 b) := by rw [hW2]; go_simp
  have al : w.heap.size < W2.heap.size := by rw [hW2]; simp; omega
  have ll : w.heap.size + 1 < W2.heap.size := by rw [hW2]; simp
  have B := Lib.hid (show Below w.heap.size w W2 by rw [hW2]; exact ((Below.refl _ _).alloc (Nat.le_refl _) _).alloc (by simp) _)
  have RP := Lib.hid (hp.keep B.out); have RQ := Lib.hid (hq.keep B.out)
  have HW := Lib.hid hW; have HQ64 := Lib.hid hq64
  have hmm : (i + 1) % m < m := Nat.mod_lt _ (by omega)
  obtain ⟨b1, o1, x, rfl, lp, hx, x0⟩ := RP.out.at_ hi
  obtain ⟨b1', o1', z, he, -, hz, z0⟩ := RP.out.at_ hmm
  injection he with he
  injection he with e1 e2 _
  subst e1 e2
  obtain ⟨b2, o2, y, rfl, lq, hy, y0⟩ := RQ.out.at_ hj
  have HX64 := Lib.hid (show 0 ≤ x ∧ x ≤ 64 by have := hp64 x (List.mem_of_getElem? hx); omega)
  have HZ64 := Lib.hid (show 0 ≤ z ∧ z ≤ 64 by have := hp64 z (List.mem_of_getElem? hz); omega)
  have HY64 := Lib.hid (show 0 ≤ y ∧ y ≤ 64 by have := hq64 y (List.mem_of_getElem? hy); omega)
  have HXX := Lib.hid (show ps.getD i 0 = x by rw [List.getD_eq_getElem?_getD, hx]; rfl)
  have HYY := Lib.hid (show qs.getD j 0 = y by rw [List.getD_eq_getElem?_getD, hy]; rfl)
  have HZZ := Lib.hid (show ps.getD ((i + 1) % ps.length) 0 = z by rw [HPL.out, List.getD_eq_getElem?_getD, hz]; rfl)
  have hi0 : (0 : Int) ≤ (i : Int) := by omega
  have him : (i : Int) < (m : Int) := by omega
  have hj0 : (0 : Int) ≤ (j : Int) := by omega
  have hjk : (j : Int) < (k : Int) := by omega
  have hme : ¬ (m : Int) = 0 := by omega
  have hme' : ¬ m = 0 := by omega
  have hke' : ¬ k = 0 := by omega
  have hke : ¬ (k : Int) = 0 := by omega
  have w1 : IntKind.i64.wrap ((i : Int) + 1) = (i : Int) + 1 := IntWalk.i64_in _ (by omega)
  have t1 : ((i : Int) + 1).tmod (m : Int) = (((i + 1) % m : Nat) : Int) := by rw [Int.tmod_eq_emod_of_nonneg (by omega)]; simp
  have w1' : IntKind.i64.wrap (((i + 1) % m : Nat) : Int) = (((i + 1) % m : Nat) : Int) := IntWalk.i64_in _ (by omega)
  have w2 : IntKind.i64.wrap ((j : Int) + (k : Int)) = (j : Int) + (k : Int) := IntWalk.i64_in _ (by omega)
  have w3 : IntKind.i64.wrap ((j : Int) + (k : Int) - 1) = (j : Int) + (k : Int) - 1 := IntWalk.i64_in _ (by omega)
  have t2 : ((j : Int) + (k : Int) - 1).tmod (k : Int) = (((j + k - 1) % k : Nat) : Int) := by rw [Int.tmod_eq_emod_of_nonneg (by omega), show ((j : Int) + (k : Int) - 1) = ((j + k - 1 : Nat) : Int) by omega]; simp
  have w4 : IntKind.i64.wrap ((j : Int) + 1) = (j : Int) + 1 := IntWalk.i64_in _ (by omega)
  have t3 : ((j : Int) + 1).tmod (k : Int) = (((j + 1) % k : Nat) : Int) := by rw [Int.tmod_eq_emod_of_nonneg (by omega)]; simp
  obtain ⟨e1, he1⟩ : ∃ e, e = (j + k - 1) % k := ⟨_, rfl⟩
  obtain ⟨e2, he2⟩ : ∃ e, e = (j + 1) % k := ⟨_, rfl⟩
  obtain ⟨e3, he3⟩ : ∃ e, e = (i + 1) % m := ⟨_, rfl⟩
  have he1k : e1 < k := by rw [he1]; exact Nat.mod_lt _ (by omega)
  have he2k : e2 < k := by rw [he2]; exact Nat.mod_lt _ (by omega)
  have he3m : e3 < m := by rw [he3]; exact hmm
  rw [← he1] at t2; rw [← he2] at t3; rw [← he3] at t1 w1' z0
  have HE1 := Lib.hid he1; have HE2 := Lib.hid he2
  have ge1 : (0 : Int) ≤ (e1 : Int) := by omega
  have le1 : (e1 : Int) < (k : Int) := by omega
  have ge2 : (0 : Int) ≤ (e2 : Int) := by omega
  have le2 : (e2 : Int) < (k : Int) := by omega
  have ge3 : (0 : Int) ≤ (e3 : Int) := by omega
  have le3 : (e3 : Int) < (m : Int) := by omega
  obtain ⟨b3, o3, v1, hf, -, hv1, v10⟩ := RQ.out.at_ he1k
  injection hf with hf
  injection hf with f1 f2 _
  subst f1 f2
  clear hp hq hW hp64 hq64 hx hy hz hmm he1 he2 he3
  cases back with
  | false =>
    obtain ⟨v, hve⟩ : ∃ v, v = v1 := ⟨_, rfl⟩
    subst hve
    have hv : qs[endI k j false]? = some v := by rw [show endI k j false = e1 from HE1.out.symm]; exact hv1
    clear hv1
    have HEV := Lib.hid (show qs.getD (endI qs.length j false) 0 = v by rw [List.getD_eq_getElem?_getD, HQL.out, hv]; rfl)
    have HV64 := Lib.hid (show 0 ≤ v ∧ v ≤ 64 by have := HQ64.out v (List.mem_of_getElem? hv); omega)
    clear hv
    cases h1 : leapB W a b x y with
    | true =>
      have H1 := Lib.hid h1
      have HJ := Lib.hid (show jB W a b ps qs i j false = leapB W a b v z by rw [jB, HXX.out, HYY.out, h1, HEV.out, HZZ.out]; rfl)
      clear h1
      have v10u := v10
      rw [hW2] at v10u
      go_enter Try.func66, Try.ntmps66
      go_wp2_with fail
      rw [← hW2]
      clear hW2 v10u
      refine wp_region_held_drew (S := fun w' => w'.cell? ⟨w.heap.size, 0, none⟩ = some (.int .i64 W) ∧ w'.cell? ⟨w.heap.size, 1, none⟩ = some (.int .i64 H) ∧ w'.cell? ⟨w.heap.size, 2, none⟩ = some (.slice A n c) ∧ w'.cell? ⟨w.heap.size + 1, 0, none⟩ = some (.int .i64 a) ∧ w'.cell? ⟨w.heap.size + 1, 1, none⟩ = some (.int .i64 b) ∧ w'.cell? ⟨b1, o1 + i, none⟩ = some (.int .i64 x) ∧ w'.cell? ⟨b2, o2 + j, none⟩ = some (.int .i64 y) ∧ w'.cell? ⟨b1, o1 + e3, none⟩ = some (.int .i64 z)) (by kernel_rfl) ?_ (fun hHeld => ?_)
      · (try dsimp only)
        exact ⟨a0, a1, a2, l0, l1, x0, y0, z0⟩
      refine wpAnyH_take (i := 0) (oi := ⟨_, _, _, _, _, _⟩) (v := ?_) rfl (by kernel_rfl) (by kernel_rfl) (by kernel_rfl) (fun _ _ _ h => h) (Or.inl ⟨by rfl, ?_⟩) (by assumption) ?_
      rotate_left
      · intro w hSw
        (try dsimp only at hSw)
        go_simp
        (try with_reducible rfl)
      (try simp only [Act.put, List.setIfInBounds_toArray, List.set_cons_zero, List.set_cons_succ])
      refine wpAnyH_take (i := 1) (oi := ⟨_, _, _, _, _, _⟩) (v := ?_) rfl (by kernel_rfl) (by kernel_rfl) (by kernel_rfl) (fun _ _ _ h => h) (Or.inl ⟨by rfl, ?_⟩) (by assumption) ?_
      rotate_left
      · intro w hSw
        (try dsimp only at hSw)
        go_simp
        (try with_reducible rfl)
      (try simp only [Act.put, List.setIfInBounds_toArray, List.set_cons_zero, List.set_cons_succ])
      refine wpAnyH_take (i := 2) (oi := ⟨_, _, _, _, _, _⟩) (v := ?_) rfl (by kernel_rfl) (by kernel_rfl) (by kernel_rfl) (fun _ _ _ h => h) (Or.inl ⟨by rfl, ?_⟩) (by assumption) ?_
      rotate_left
      · intro w hSw
        (try dsimp only at hSw)
        go_simp
        (try with_reducible rfl)
      (try simp only [Act.put, List.setIfInBounds_toArray, List.set_cons_zero, List.set_cons_succ])
      refine wpAnyH_take (i := 3) (oi := ⟨_, _, _, _, _, _⟩) (v := ?_) rfl (by kernel_rfl) (by kernel_rfl) (by kernel_rfl) (fun _ _ _ h => h) (Or.inl ⟨by rfl, ?_⟩) (by assumption) ?_
      rotate_left
      · intro w hSw
        (try dsimp only at hSw)
        go_simp
        (try with_reducible rfl)
      (try simp only [Act.put, List.setIfInBounds_toArray, List.set_cons_zero, List.set_cons_succ])
      refine wpAnyH_take (i := 4) (oi := ⟨_, _, _, _, _, _⟩) (v := ?_) rfl (by kernel_rfl) (by kernel_rfl) (by kernel_rfl) (fun _ _ _ h => h) (Or.inl ⟨by rfl, ?_⟩) (by assumption) ?_
      rotate_left
      · intro w hSw
        (try dsimp only at hSw)
        go_simp
        (try with_reducible rfl)
      (try simp only [Act.put, List.setIfInBounds_toArray, List.set_cons_zero, List.set_cons_succ])
      refine wpAnyH_take (i := 5) (oi := ⟨_, _, _, _, _, _⟩) (v := ?_) rfl (by kernel_rfl) (by kernel_rfl) (by kernel_rfl) (fun _ _ _ h => h) (Or.inl ⟨by rfl, ?_⟩) (by assumption) ?_
      rotate_left
      · intro w hSw
        (try dsimp only at hSw)
        go_simp
        (try with_reducible rfl)
      (try simp only [Act.put, List.setIfInBounds_toArray, List.set_cons_zero, List.set_cons_succ])
      refine wpAnyH_take (i := 6) (oi := ⟨_, _, _, _, _, _⟩) (v := ?_) rfl (by kernel_rfl) (by kernel_rfl) (by kernel_rfl) (fun _ _ _ h => h) (Or.inl ⟨by rfl, ?_⟩) (by assumption) ?_
      rotate_left
      · intro w hSw
        (try dsimp only at hSw)
        go_simp
        (try with_reducible rfl)
      (try simp only [Act.put, List.setIfInBounds_toArray, List.set_cons_zero, List.set_cons_succ])
      refine wpAnyH_take (i := 7) (oi := ⟨_, _, _, _, _, _⟩) (v := ?_) rfl (by kernel_rfl) (by kernel_rfl) (by kernel_rfl) (fun _ _ _ h => h) (Or.inl ⟨by rfl, ?_⟩) (by assumption) ?_
      rotate_left
      · intro w hSw
        (try dsimp only at hSw)
        go_simp
        (try with_reducible rfl)
      (try simp only [Act.put, List.setIfInBounds_toArray, List.set_cons_zero, List.set_cons_succ])
      refine wpAnyH_take (i := 8) (oi := ⟨_, _, _, _, _, _⟩) (v := ?_) rfl (by kernel_rfl) (by kernel_rfl) (by kernel_rfl) (fun _ _ _ h => h) (Or.inl ⟨by rfl, ?_⟩) (by assumption) ?_
      rotate_left
      · intro w hSw
        (try dsimp only at hSw)
        go_simp
        (try with_reducible rfl)
      (try simp only [Act.put, List.setIfInBounds_toArray, List.set_cons_zero, List.set_cons_succ])
      refine wpAnyH_take (i := 9) (oi := ⟨_, _, _, _, _, _⟩) (v := ?_) rfl (by kernel_rfl) (by kernel_rfl) (by kernel_rfl) (fun _ _ _ h => h) (Or.inl ⟨by rfl, ?_⟩) (by assumption) ?_
      rotate_left
      · intro w hSw
        (try dsimp only at hSw)
        go_simp
        (try with_reducible rfl)
      (try simp only [Act.put, List.setIfInBounds_toArray, List.set_cons_zero, List.set_cons_succ])
      refine wpAnyH_ready (rs := [10]) (by kernel_rfl) (by simp) ?_
      refine AllReadyH.cons (o := ⟨_, _, _, _, _, _⟩) rfl (fun K hK => ?_) AllReadyH.nil
      go_simp
      (go_at_call 95; refine (boIs_any W H A n c a b x y _ ?_ ?_ ?_).mono ?_; (exact HW.out); (exact HX64.out); (exact HY64.out); rw [H1.out]; rintro e wx ⟨rfl, hb⟩; (repeat (first | replace hb := below_undrew hb | replace hb := below_undrewN hb)); replace a0 := cell_keep a0 al hb; replace a1 := cell_keep a1 al hb; replace a2 := cell_keep a2 al hb; replace al := lt_keep al hb; replace l0 := cell_keep l0 ll hb; replace l1 := cell_keep l1 ll hb; replace ll := lt_keep ll hb; replace x0 := cell_keep x0 lp hb; replace z0 := cell_keep z0 lp hb; replace lp := lt_keep lp hb; replace y0 := cell_keep y0 lq hb; replace lq := lt_keep lq hb; replace B := Lib.hid (below_next B.out hb); clear hb)
      (try go_wp2_with fail)
      refine hK.out _ _ ?_ (fun hHeld => ?_)
      · (try dsimp only)
        exact ⟨a0, a1, a2, l0, l1, x0, y0, z0⟩
      clear hK K
      (try simp only [Act.put, List.setIfInBounds_toArray, List.set_cons_zero, List.set_cons_succ])
      refine wpAnyH_take (i := 11) (oi := ⟨_, _, _, _, _, _⟩) (v := ?_) rfl (by kernel_rfl) (by kernel_rfl) (by kernel_rfl) (fun _ _ _ h => h) (Or.inl ⟨by rfl, ?_⟩) (by assumption) ?_
      rotate_left
      · intro w hSw
        (try dsimp only at hSw)
        go_simp
        (try with_reducible rfl)
      (try simp only [Act.put, List.setIfInBounds_toArray, List.set_cons_zero, List.set_cons_succ])
      refine wpAnyH_take (i := 12) (oi := ⟨_, _, _, _, _, _⟩) (v := ?_) rfl (by kernel_rfl) (by kernel_rfl) (by kernel_rfl) (fun _ _ _ h => h) (Or.inl ⟨by rfl, ?_⟩) (by assumption) ?_
      rotate_left
      · intro w hSw
        (try dsimp only at hSw)
        go_simp
        (try with_reducible rfl)
      (try simp only [Act.put, List.setIfInBounds_toArray, List.set_cons_zero, List.set_cons_succ])
      refine wpAnyH_take (i := 13) (oi := ⟨_, _, _, _, _, _⟩) (v := ?_) rfl (by kernel_rfl) (by kernel_rfl) (by kernel_rfl) (fun _ _ _ h => h) (Or.inl ⟨by rfl, ?_⟩) (by assumption) ?_
      rotate_left
      · intro w hSw
        (try dsimp only at hSw)
        go_simp
        (try with_reducible rfl)
      (try simp only [Act.put, List.setIfInBounds_toArray, List.set_cons_zero, List.set_cons_succ])
      refine wpAnyH_take (i := 14) (oi := ⟨_, _, _, _, _, _⟩) (v := ?_) rfl (by kernel_rfl) (by kernel_rfl) (by kernel_rfl) (fun _ _ _ h => h) (Or.inl ⟨by rfl, ?_⟩) (by assumption) ?_
      rotate_left
      · intro w hSw
        (try dsimp only at hSw)
        go_simp
        (try with_reducible rfl)
      (try simp only [Act.put, List.setIfInBounds_toArray, List.set_cons_zero, List.set_cons_succ])
      refine wpAnyH_take (i := 15) (oi := ⟨_, _, _, _, _, _⟩) (v := ?_) rfl (by kernel_rfl) (by kernel_rfl) (by kernel_rfl) (fun _ _ _ h => h) (Or.inl ⟨by rfl, ?_⟩) (by assumption) ?_
      rotate_left
      · intro w hSw
        (try dsimp only at hSw)
        go_simp
        (try with_reducible rfl)
      (try simp only [Act.put, List.setIfInBounds_toArray, List.set_cons_zero, List.set_cons_succ])
      refine wpAnyH_take (i := 16) (oi := ⟨_, _, _, _, _, _⟩) (v := ?_) rfl (by kernel_rfl) (by kernel_rfl) (by kernel_rfl) (fun _ _ _ h => h) (Or.inl ⟨by rfl, ?_⟩) (by assumption) ?_
      rotate_left
      · intro w hSw
        (try dsimp only at hSw)
        go_simp
        (try with_reducible rfl)
      (try simp only [Act.put, List.setIfInBounds_toArray, List.set_cons_zero, List.set_cons_succ])
      refine wpAnyH_take (i := 17) (oi := ⟨_, _, _, _, _, _⟩) (v := ?_) rfl (by kernel_rfl) (by kernel_rfl) (by kernel_rfl) (fun _ _ _ h => h) (Or.inl ⟨by rfl, ?_⟩) (by assumption) ?_
      rotate_left
      · intro w hSw
        (try dsimp only at hSw)
        go_simp
        (try with_reducible rfl)
      (try simp only [Act.put, List.setIfInBounds_toArray, List.set_cons_zero, List.set_cons_succ])
      refine wpAnyH_take (i := 18) (oi := ⟨_, _, _, _, _, _⟩) (v := ?_) rfl (by kernel_rfl) (by kernel_rfl) (by kernel_rfl) (fun _ _ _ h => h) (Or.inl ⟨by rfl, ?_⟩) (by assumption) ?_
      rotate_left
      · intro w hSw
        (try dsimp only at hSw)
        go_simp
        (try with_reducible rfl)
      (try simp only [Act.put, List.setIfInBounds_toArray, List.set_cons_zero, List.set_cons_succ])
      refine wpAnyH_take (i := 19) (oi := ⟨_, _, _, _, _, _⟩) (v := ?_) rfl (by kernel_rfl) (by kernel_rfl) (by kernel_rfl) (fun _ _ _ h => h) (Or.inl ⟨by rfl, ?_⟩) (by assumption) ?_
      rotate_left
      · intro w hSw
        (try dsimp only at hSw)
        go_simp
        (try with_reducible rfl)
      (try simp only [Act.put, List.setIfInBounds_toArray, List.set_cons_zero, List.set_cons_succ])
      refine wpAnyH_take (i := 20) (oi := ⟨_, _, _, _, _, _⟩) (v := ?_) rfl (by kernel_rfl) (by kernel_rfl) (by kernel_rfl) (fun _ _ _ h => h) (Or.inl ⟨by rfl, ?_⟩) (by assumption) ?_
      rotate_left
      · intro w hSw
        (try dsimp only at hSw)
        go_simp
        (try with_reducible rfl)
      (try simp only [Act.put, List.setIfInBounds_toArray, List.set_cons_zero, List.set_cons_succ])
      refine wpAnyH_take (i := 21) (oi := ⟨_, _, _, _, _, _⟩) (v := ?_) rfl (by kernel_rfl) (by kernel_rfl) (by kernel_rfl) (fun _ _ _ h => h) (Or.inl ⟨by rfl, ?_⟩) (by assumption) ?_
      rotate_left
      · intro w hSw
        (try dsimp only at hSw)
        go_simp
        (try with_reducible rfl)
      (try simp only [Act.put, List.setIfInBounds_toArray, List.set_cons_zero, List.set_cons_succ])
      refine wpAnyH_take (i := 22) (oi := ⟨_, _, _, _, _, _⟩) (v := ?_) rfl (by kernel_rfl) (by kernel_rfl) (by kernel_rfl) (fun _ _ _ h => h) (Or.inl ⟨by rfl, ?_⟩) (by assumption) ?_
      rotate_left
      · intro w hSw
        (try dsimp only at hSw)
        go_simp
        (try with_reducible rfl)
      (try simp only [Act.put, List.setIfInBounds_toArray, List.set_cons_zero, List.set_cons_succ])
      refine wpAnyH_ready (rs := [23]) (by kernel_rfl) (by simp) ?_
      refine AllReadyH.cons (o := ⟨_, _, _, _, _, _⟩) rfl (fun K hK => ?_) AllReadyH.nil
      go_simp
      (go_at_call 95; refine (boIs_any W H A n c a b v z _ ?_ ?_ ?_).mono ?_; (exact HW.out); (exact HV64.out); (exact HZ64.out); rintro e wx ⟨rfl, hb⟩; (repeat (first | replace hb := below_undrew hb | replace hb := below_undrewN hb)); replace a0 := cell_keep a0 al hb; replace a1 := cell_keep a1 al hb; replace a2 := cell_keep a2 al hb; replace al := lt_keep al hb; replace l0 := cell_keep l0 ll hb; replace l1 := cell_keep l1 ll hb; replace ll := lt_keep ll hb; replace x0 := cell_keep x0 lp hb; replace z0 := cell_keep z0 lp hb; replace lp := lt_keep lp hb; replace y0 := cell_keep y0 lq hb; replace lq := lt_keep lq hb; replace B := Lib.hid (below_next B.out hb); clear hb)
      (try go_wp2_with fail)
      refine hK.out _ _ ?_ (fun hHeld => ?_)
      · (try dsimp only)
        exact ⟨a0, a1, a2, l0, l1, x0, y0, z0⟩
      clear hK K
      (try simp only [Act.put, List.setIfInBounds_toArray, List.set_cons_zero, List.set_cons_succ])
      refine wpAnyH_take (i := 24) (oi := ⟨_, _, _, _, _, _⟩) (v := ?_) rfl (by kernel_rfl) (by kernel_rfl) (by kernel_rfl) (fun _ _ _ h => h) (Or.inl ⟨by rfl, ?_⟩) (by assumption) ?_
      rotate_left
      · intro w hSw
        (try dsimp only at hSw)
        go_simp
        (try with_reducible rfl)
      (try simp only [Act.put, List.setIfInBounds_toArray, List.set_cons_zero, List.set_cons_succ])
      refine wpAnyH_take (i := 25) (oi := ⟨_, _, _, _, _, _⟩) (v := ?_) rfl (by kernel_rfl) (by kernel_rfl) (by kernel_rfl) (fun _ _ _ h => h) (Or.inl ⟨by rfl, ?_⟩) (by assumption) ?_
      rotate_left
      · intro w hSw
        (try dsimp only at hSw)
        go_simp
        (try with_reducible rfl)
      (try simp only [Act.put, List.setIfInBounds_toArray, List.set_cons_zero, List.set_cons_succ])
      refine wpAnyH_done (by kernel_rfl) ?_ _
      go_wp2
      go_ret
      exact ⟨ret_bool (by rw [HJ.out]), B.out⟩
    | false =>
      have H1 := Lib.hid h1
      have HJ := Lib.hid (show jB W a b ps qs i j false = false by rw [jB, HXX.out, HYY.out, h1]; rfl)
      clear h1
      have v10u := v10
      rw [hW2] at v10u
      go_enter Try.func66, Try.ntmps66
      go_wp2_with fail
      rw [← hW2]
      clear hW2 v10u
      refine wp_region_held_drew (S := fun w' => w'.cell? ⟨w.heap.size, 0, none⟩ = some (.int .i64 W) ∧ w'.cell? ⟨w.heap.size, 1, none⟩ = some (.int .i64 H) ∧ w'.cell? ⟨w.heap.size, 2, none⟩ = some (.slice A n c) ∧ w'.cell? ⟨w.heap.size + 1, 0, none⟩ = some (.int .i64 a) ∧ w'.cell? ⟨w.heap.size + 1, 1, none⟩ = some (.int .i64 b) ∧ w'.cell? ⟨b1, o1 + i, none⟩ = some (.int .i64 x) ∧ w'.cell? ⟨b2, o2 + j, none⟩ = some (.int .i64 y) ∧ w'.cell? ⟨b1, o1 + e3, none⟩ = some (.int .i64 z)) (by kernel_rfl) ?_ (fun hHeld => ?_)
      · (try dsimp only)
        exact ⟨a0, a1, a2, l0, l1, x0, y0, z0⟩
      refine wpAnyH_take (i := 0) (oi := ⟨_, _, _, _, _, _⟩) (v := ?_) rfl (by kernel_rfl) (by kernel_rfl) (by kernel_rfl) (fun _ _ _ h => h) (Or.inl ⟨by rfl, ?_⟩) (by assumption) ?_
      rotate_left
      · intro w hSw
        (try dsimp only at hSw)
        go_simp
        (try with_reducible rfl)
      (try simp only [Act.put, List.setIfInBounds_toArray, List.set_cons_zero, List.set_cons_succ])
      refine wpAnyH_take (i := 1) (oi := ⟨_, _, _, _, _, _⟩) (v := ?_) rfl (by kernel_rfl) (by kernel_rfl) (by kernel_rfl) (fun _ _ _ h => h) (Or.inl ⟨by rfl, ?_⟩) (by assumption) ?_
      rotate_left
      · intro w hSw
        (try dsimp only at hSw)
        go_simp
        (try with_reducible rfl)
      (try simp only [Act.put, List.setIfInBounds_toArray, List.set_cons_zero, List.set_cons_succ])
      refine wpAnyH_take (i := 2) (oi := ⟨_, _, _, _, _, _⟩) (v := ?_) rfl (by kernel_rfl) (by kernel_rfl) (by kernel_rfl) (fun _ _ _ h => h) (Or.inl ⟨by rfl, ?_⟩) (by assumption) ?_
      rotate_left
      · intro w hSw
        (try dsimp only at hSw)
        go_simp
        (try with_reducible rfl)
      (try simp only [Act.put, List.setIfInBounds_toArray, List.set_cons_zero, List.set_cons_succ])
      refine wpAnyH_take (i := 3) (oi := ⟨_, _, _, _, _, _⟩) (v := ?_) rfl (by kernel_rfl) (by kernel_rfl) (by kernel_rfl) (fun _ _ _ h => h) (Or.inl ⟨by rfl, ?_⟩) (by assumption) ?_
      rotate_left
      · intro w hSw
        (try dsimp only at hSw)
        go_simp
        (try with_reducible rfl)
      (try simp only [Act.put, List.setIfInBounds_toArray, List.set_cons_zero, List.set_cons_succ])
      refine wpAnyH_take (i := 4) (oi := ⟨_, _, _, _, _, _⟩) (v := ?_) rfl (by kernel_rfl) (by kernel_rfl) (by kernel_rfl) (fun _ _ _ h => h) (Or.inl ⟨by rfl, ?_⟩) (by assumption) ?_
      rotate_left
      · intro w hSw
        (try dsimp only at hSw)
        go_simp
        (try with_reducible rfl)
      (try simp only [Act.put, List.setIfInBounds_toArray, List.set_cons_zero, List.set_cons_succ])
      refine wpAnyH_take (i := 5) (oi := ⟨_, _, _, _, _, _⟩) (v := ?_) rfl (by kernel_rfl) (by kernel_rfl) (by kernel_rfl) (fun _ _ _ h => h) (Or.inl ⟨by rfl, ?_⟩) (by assumption) ?_
      rotate_left
      · intro w hSw
        (try dsimp only at hSw)
        go_simp
        (try with_reducible rfl)
      (try simp only [Act.put, List.setIfInBounds_toArray, List.set_cons_zero, List.set_cons_succ])
      refine wpAnyH_take (i := 6) (oi := ⟨_, _, _, _, _, _⟩) (v := ?_) rfl (by kernel_rfl) (by kernel_rfl) (by kernel_rfl) (fun _ _ _ h => h) (Or.inl ⟨by rfl, ?_⟩) (by assumption) ?_
      rotate_left
      · intro w hSw
        (try dsimp only at hSw)
        go_simp
        (try with_reducible rfl)
      (try simp only [Act.put, List.setIfInBounds_toArray, List.set_cons_zero, List.set_cons_succ])
      refine wpAnyH_take (i := 7) (oi := ⟨_, _, _, _, _, _⟩) (v := ?_) rfl (by kernel_rfl) (by kernel_rfl) (by kernel_rfl) (fun _ _ _ h => h) (Or.inl ⟨by rfl, ?_⟩) (by assumption) ?_
      rotate_left
      · intro w hSw
        (try dsimp only at hSw)
        go_simp
        (try with_reducible rfl)
      (try simp only [Act.put, List.setIfInBounds_toArray, List.set_cons_zero, List.set_cons_succ])
      refine wpAnyH_take (i := 8) (oi := ⟨_, _, _, _, _, _⟩) (v := ?_) rfl (by kernel_rfl) (by kernel_rfl) (by kernel_rfl) (fun _ _ _ h => h) (Or.inl ⟨by rfl, ?_⟩) (by assumption) ?_
      rotate_left
      · intro w hSw
        (try dsimp only at hSw)
        go_simp
        (try with_reducible rfl)
      (try simp only [Act.put, List.setIfInBounds_toArray, List.set_cons_zero, List.set_cons_succ])
      refine wpAnyH_take (i := 9) (oi := ⟨_, _, _, _, _, _⟩) (v := ?_) rfl (by kernel_rfl) (by kernel_rfl) (by kernel_rfl) (fun _ _ _ h => h) (Or.inl ⟨by rfl, ?_⟩) (by assumption) ?_
      rotate_left
      · intro w hSw
        (try dsimp only at hSw)
        go_simp
        (try with_reducible rfl)
      (try simp only [Act.put, List.setIfInBounds_toArray, List.set_cons_zero, List.set_cons_succ])
      refine wpAnyH_ready (rs := [10]) (by kernel_rfl) (by simp) ?_
      refine AllReadyH.cons (o := ⟨_, _, _, _, _, _⟩) rfl (fun K hK => ?_) AllReadyH.nil
      go_simp
      (go_at_call 95; refine (boIs_any W H A n c a b x y _ ?_ ?_ ?_).mono ?_; (exact HW.out); (exact HX64.out); (exact HY64.out); rw [H1.out]; rintro e wx ⟨rfl, hb⟩; (repeat (first | replace hb := below_undrew hb | replace hb := below_undrewN hb)); replace a0 := cell_keep a0 al hb; replace a1 := cell_keep a1 al hb; replace a2 := cell_keep a2 al hb; replace al := lt_keep al hb; replace l0 := cell_keep l0 ll hb; replace l1 := cell_keep l1 ll hb; replace ll := lt_keep ll hb; replace x0 := cell_keep x0 lp hb; replace z0 := cell_keep z0 lp hb; replace lp := lt_keep lp hb; replace y0 := cell_keep y0 lq hb; replace lq := lt_keep lq hb; replace B := Lib.hid (below_next B.out hb); clear hb)
      (try go_wp2_with fail)
      refine hK.out _ _ ?_ (fun hHeld => ?_)
      · (try dsimp only)
        exact ⟨a0, a1, a2, l0, l1, x0, y0, z0⟩
      clear hK K
      (try simp only [Act.put, List.setIfInBounds_toArray, List.set_cons_zero, List.set_cons_succ])
      refine wpAnyH_take (i := 11) (oi := ⟨_, _, _, _, _, _⟩) (v := ?_) rfl (by kernel_rfl) (by kernel_rfl) (by kernel_rfl) (fun _ _ _ h => h) (Or.inl ⟨by rfl, ?_⟩) (by assumption) ?_
      rotate_left
      · intro w hSw
        (try dsimp only at hSw)
        go_simp
        (try with_reducible rfl)
      (try simp only [Act.put, List.setIfInBounds_toArray, List.set_cons_zero, List.set_cons_succ])
      refine wpAnyH_take (i := 12) (oi := ⟨_, _, _, _, _, _⟩) (v := undef) rfl (by kernel_rfl) (by kernel_rfl) (by kernel_rfl) (fun _ _ _ h => h) (Or.inr ⟨by rfl, rfl⟩) (by assumption) ?_
      (try simp only [Act.put, List.setIfInBounds_toArray, List.set_cons_zero, List.set_cons_succ])
      refine wpAnyH_take (i := 13) (oi := ⟨_, _, _, _, _, _⟩) (v := undef) rfl (by kernel_rfl) (by kernel_rfl) (by kernel_rfl) (fun _ _ _ h => h) (Or.inr ⟨by rfl, rfl⟩) (by assumption) ?_
      (try simp only [Act.put, List.setIfInBounds_toArray, List.set_cons_zero, List.set_cons_succ])
      refine wpAnyH_take (i := 14) (oi := ⟨_, _, _, _, _, _⟩) (v := undef) rfl (by kernel_rfl) (by kernel_rfl) (by kernel_rfl) (fun _ _ _ h => h) (Or.inr ⟨by rfl, rfl⟩) (by assumption) ?_
      (try simp only [Act.put, List.setIfInBounds_toArray, List.set_cons_zero, List.set_cons_succ])
      refine wpAnyH_take (i := 15) (oi := ⟨_, _, _, _, _, _⟩) (v := undef) rfl (by kernel_rfl) (by kernel_rfl) (by kernel_rfl) (fun _ _ _ h => h) (Or.inr ⟨by rfl, rfl⟩) (by assumption) ?_
      (try simp only [Act.put, List.setIfInBounds_toArray, List.set_cons_zero, List.set_cons_succ])
      refine wpAnyH_take (i := 16) (oi := ⟨_, _, _, _, _, _⟩) (v := undef) rfl (by kernel_rfl) (by kernel_rfl) (by kernel_rfl) (fun _ _ _ h => h) (Or.inr ⟨by rfl, rfl⟩) (by assumption) ?_
      (try simp only [Act.put, List.setIfInBounds_toArray, List.set_cons_zero, List.set_cons_succ])
      refine wpAnyH_take (i := 17) (oi := ⟨_, _, _, _, _, _⟩) (v := undef) rfl (by kernel_rfl) (by kernel_rfl) (by kernel_rfl) (fun _ _ _ h => h) (Or.inr ⟨by rfl, rfl⟩) (by assumption) ?_
      (try simp only [Act.put, List.setIfInBounds_toArray, List.set_cons_zero, List.set_cons_succ])
      refine wpAnyH_take (i := 18) (oi := ⟨_, _, _, _, _, _⟩) (v := undef) rfl (by kernel_rfl) (by kernel_rfl) (by kernel_rfl) (fun _ _ _ h => h) (Or.inr ⟨by rfl, rfl⟩) (by assumption) ?_
      (try simp only [Act.put, List.setIfInBounds_toArray, List.set_cons_zero, List.set_cons_succ])
      refine wpAnyH_take (i := 19) (oi := ⟨_, _, _, _, _, _⟩) (v := undef) rfl (by kernel_rfl) (by kernel_rfl) (by kernel_rfl) (fun _ _ _ h => h) (Or.inr ⟨by rfl, rfl⟩) (by assumption) ?_
      (try simp only [Act.put, List.setIfInBounds_toArray, List.set_cons_zero, List.set_cons_succ])
      refine wpAnyH_take (i := 20) (oi := ⟨_, _, _, _, _, _⟩) (v := undef) rfl (by kernel_rfl) (by kernel_rfl) (by kernel_rfl) (fun _ _ _ h => h) (Or.inr ⟨by rfl, rfl⟩) (by assumption) ?_
      (try simp only [Act.put, List.setIfInBounds_toArray, List.set_cons_zero, List.set_cons_succ])
      refine wpAnyH_take (i := 21) (oi := ⟨_, _, _, _, _, _⟩) (v := undef) rfl (by kernel_rfl) (by kernel_rfl) (by kernel_rfl) (fun _ _ _ h => h) (Or.inr ⟨by rfl, rfl⟩) (by assumption) ?_
      (try simp only [Act.put, List.setIfInBounds_toArray, List.set_cons_zero, List.set_cons_succ])
      refine wpAnyH_take (i := 22) (oi := ⟨_, _, _, _, _, _⟩) (v := undef) rfl (by kernel_rfl) (by kernel_rfl) (by kernel_rfl) (fun _ _ _ h => h) (Or.inr ⟨by rfl, rfl⟩) (by assumption) ?_
      (try simp only [Act.put, List.setIfInBounds_toArray, List.set_cons_zero, List.set_cons_succ])
      refine wpAnyH_take (i := 23) (oi := ⟨_, _, _, _, _, _⟩) (v := undef) rfl (by kernel_rfl) (by kernel_rfl) (by kernel_rfl) (fun _ _ _ h => h) (Or.inr ⟨by rfl, rfl⟩) (by assumption) ?_
      (try simp only [Act.put, List.setIfInBounds_toArray, List.set_cons_zero, List.set_cons_succ])
      refine wpAnyH_take (i := 24) (oi := ⟨_, _, _, _, _, _⟩) (v := ?_) rfl (by kernel_rfl) (by kernel_rfl) (by kernel_rfl) (fun _ _ _ h => h) (Or.inl ⟨by rfl, ?_⟩) (by assumption) ?_
      rotate_left
      · intro w hSw
        (try dsimp only at hSw)
        go_simp
        (try with_reducible rfl)
      (try simp only [Act.put, List.setIfInBounds_toArray, List.set_cons_zero, List.set_cons_succ])
      refine wpAnyH_take (i := 25) (oi := ⟨_, _, _, _, _, _⟩) (v := ?_) rfl (by kernel_rfl) (by kernel_rfl) (by kernel_rfl) (fun _ _ _ h => h) (Or.inl ⟨by rfl, ?_⟩) (by assumption) ?_
      rotate_left
      · intro w hSw
        (try dsimp only at hSw)
        go_simp
        (try with_reducible rfl)
      (try simp only [Act.put, List.setIfInBounds_toArray, List.set_cons_zero, List.set_cons_succ])
      refine wpAnyH_done (by kernel_rfl) ?_ _
      go_wp2
      go_ret
      exact ⟨ret_bool (by rw [HJ.out]), B.out⟩
  | true =>
    obtain ⟨b3, o3, v, hf, -, hv2, v20⟩ := RQ.out.at_ he2k
    injection hf with hf
    injection hf with f1 f2 _
    subst f1 f2
    have hv : qs[endI k j true]? = some v := by rw [show endI k j true = e2 from HE2.out.symm]; exact hv2
    clear hv1 hv2
    have HEV := Lib.hid (show qs.getD (endI qs.length j true) 0 = v by rw [List.getD_eq_getElem?_getD, HQL.out, hv]; rfl)
    have HV64 := Lib.hid (show 0 ≤ v ∧ v ≤ 64 by have := HQ64.out v (List.mem_of_getElem? hv); omega)
    clear hv
    cases h1 : leapB W a b x y with
    | true =>
      have H1 := Lib.hid h1
      have HJ := Lib.hid (show jB W a b ps qs i j true = leapB W a b v z by rw [jB, HXX.out, HYY.out, h1, HEV.out, HZZ.out]; rfl)
      clear h1
      have v10u := v10
      rw [hW2] at v10u
      have v20u := v20
      rw [hW2] at v20u
      go_enter Try.func66, Try.ntmps66
      go_wp2_with fail
      rw [← hW2]
      clear hW2 v10u v20u
      refine wp_region_held_drew (S := fun w' => w'.cell? ⟨w.heap.size, 0, none⟩ = some (.int .i64 W) ∧ w'.cell? ⟨w.heap.size, 1, none⟩ = some (.int .i64 H) ∧ w'.cell? ⟨w.heap.size, 2, none⟩ = some (.slice A n c) ∧ w'.cell? ⟨w.heap.size + 1, 0, none⟩ = some (.int .i64 a) ∧ w'.cell? ⟨w.heap.size + 1, 1, none⟩ = some (.int .i64 b) ∧ w'.cell? ⟨b1, o1 + i, none⟩ = some (.int .i64 x) ∧ w'.cell? ⟨b2, o2 + j, none⟩ = some (.int .i64 y) ∧ w'.cell? ⟨b1, o1 + e3, none⟩ = some (.int .i64 z)) (by kernel_rfl) ?_ (fun hHeld => ?_)
      · (try dsimp only)
        exact ⟨a0, a1, a2, l0, l1, x0, y0, z0⟩
      refine wpAnyH_take (i := 0) (oi := ⟨_, _, _, _, _, _⟩) (v := ?_) rfl (by kernel_rfl) (by kernel_rfl) (by kernel_rfl) (fun _ _ _ h => h) (Or.inl ⟨by rfl, ?_⟩) (by assumption) ?_
      rotate_left
      · intro w hSw
        (try dsimp only at hSw)
        go_simp
        (try with_reducible rfl)
      (try simp only [Act.put, List.setIfInBounds_toArray, List.set_cons_zero, List.set_cons_succ])
      refine wpAnyH_take (i := 1) (oi := ⟨_, _, _, _, _, _⟩) (v := ?_) rfl (by kernel_rfl) (by kernel_rfl) (by kernel_rfl) (fun _ _ _ h => h) (Or.inl ⟨by rfl, ?_⟩) (by assumption) ?_
      rotate_left
      · intro w hSw
        (try dsimp only at hSw)
        go_simp
        (try with_reducible rfl)
      (try simp only [Act.put, List.setIfInBounds_toArray, List.set_cons_zero, List.set_cons_succ])
      refine wpAnyH_take (i := 2) (oi := ⟨_, _, _, _, _, _⟩) (v := ?_) rfl (by kernel_rfl) (by kernel_rfl) (by kernel_rfl) (fun _ _ _ h => h) (Or.inl ⟨by rfl, ?_⟩) (by assumption) ?_
      rotate_left
      · intro w hSw
        (try dsimp only at hSw)
        go_simp
        (try with_reducible rfl)
      (try simp only [Act.put, List.setIfInBounds_toArray, List.set_cons_zero, List.set_cons_succ])
      refine wpAnyH_take (i := 3) (oi := ⟨_, _, _, _, _, _⟩) (v := ?_) rfl (by kernel_rfl) (by kernel_rfl) (by kernel_rfl) (fun _ _ _ h => h) (Or.inl ⟨by rfl, ?_⟩) (by assumption) ?_
      rotate_left
      · intro w hSw
        (try dsimp only at hSw)
        go_simp
        (try with_reducible rfl)
      (try simp only [Act.put, List.setIfInBounds_toArray, List.set_cons_zero, List.set_cons_succ])
      refine wpAnyH_take (i := 4) (oi := ⟨_, _, _, _, _, _⟩) (v := ?_) rfl (by kernel_rfl) (by kernel_rfl) (by kernel_rfl) (fun _ _ _ h => h) (Or.inl ⟨by rfl, ?_⟩) (by assumption) ?_
      rotate_left
      · intro w hSw
        (try dsimp only at hSw)
        go_simp
        (try with_reducible rfl)
      (try simp only [Act.put, List.setIfInBounds_toArray, List.set_cons_zero, List.set_cons_succ])
      refine wpAnyH_take (i := 5) (oi := ⟨_, _, _, _, _, _⟩) (v := ?_) rfl (by kernel_rfl) (by kernel_rfl) (by kernel_rfl) (fun _ _ _ h => h) (Or.inl ⟨by rfl, ?_⟩) (by assumption) ?_
      rotate_left
      · intro w hSw
        (try dsimp only at hSw)
        go_simp
        (try with_reducible rfl)
      (try simp only [Act.put, List.setIfInBounds_toArray, List.set_cons_zero, List.set_cons_succ])
      refine wpAnyH_take (i := 6) (oi := ⟨_, _, _, _, _, _⟩) (v := ?_) rfl (by kernel_rfl) (by kernel_rfl) (by kernel_rfl) (fun _ _ _ h => h) (Or.inl ⟨by rfl, ?_⟩) (by assumption) ?_
      rotate_left
      · intro w hSw
        (try dsimp only at hSw)
        go_simp
        (try with_reducible rfl)
      (try simp only [Act.put, List.setIfInBounds_toArray, List.set_cons_zero, List.set_cons_succ])
      refine wpAnyH_take (i := 7) (oi := ⟨_, _, _, _, _, _⟩) (v := ?_) rfl (by kernel_rfl) (by kernel_rfl) (by kernel_rfl) (fun _ _ _ h => h) (Or.inl ⟨by rfl, ?_⟩) (by assumption) ?_
      rotate_left
      · intro w hSw
        (try dsimp only at hSw)
        go_simp
        (try with_reducible rfl)
      (try simp only [Act.put, List.setIfInBounds_toArray, List.set_cons_zero, List.set_cons_succ])
      refine wpAnyH_take (i := 8) (oi := ⟨_, _, _, _, _, _⟩) (v := ?_) rfl (by kernel_rfl) (by kernel_rfl) (by kernel_rfl) (fun _ _ _ h => h) (Or.inl ⟨by rfl, ?_⟩) (by assumption) ?_
      rotate_left
      · intro w hSw
        (try dsimp only at hSw)
        go_simp
        (try with_reducible rfl)
      (try simp only [Act.put, List.setIfInBounds_toArray, List.set_cons_zero, List.set_cons_succ])
      refine wpAnyH_take (i := 9) (oi := ⟨_, _, _, _, _, _⟩) (v := ?_) rfl (by kernel_rfl) (by kernel_rfl) (by kernel_rfl) (fun _ _ _ h => h) (Or.inl ⟨by rfl, ?_⟩) (by assumption) ?_
      rotate_left
      · intro w hSw
        (try dsimp only at hSw)
        go_simp
        (try with_reducible rfl)
      (try simp only [Act.put, List.setIfInBounds_toArray, List.set_cons_zero, List.set_cons_succ])
      refine wpAnyH_ready (rs := [10]) (by kernel_rfl) (by simp) ?_
      refine AllReadyH.cons (o := ⟨_, _, _, _, _, _⟩) rfl (fun K hK => ?_) AllReadyH.nil
      go_simp
      (go_at_call 95; refine (boIs_any W H A n c a b x y _ ?_ ?_ ?_).mono ?_; (exact HW.out); (exact HX64.out); (exact HY64.out); rw [H1.out]; rintro e wx ⟨rfl, hb⟩; (repeat (first | replace hb := below_undrew hb | replace hb := below_undrewN hb)); replace a0 := cell_keep a0 al hb; replace a1 := cell_keep a1 al hb; replace a2 := cell_keep a2 al hb; replace al := lt_keep al hb; replace l0 := cell_keep l0 ll hb; replace l1 := cell_keep l1 ll hb; replace ll := lt_keep ll hb; replace x0 := cell_keep x0 lp hb; replace z0 := cell_keep z0 lp hb; replace lp := lt_keep lp hb; replace y0 := cell_keep y0 lq hb; replace lq := lt_keep lq hb; replace B := Lib.hid (below_next B.out hb); clear hb)
      (try go_wp2_with fail)
      refine hK.out _ _ ?_ (fun hHeld => ?_)
      · (try dsimp only)
        exact ⟨a0, a1, a2, l0, l1, x0, y0, z0⟩
      clear hK K
      (try simp only [Act.put, List.setIfInBounds_toArray, List.set_cons_zero, List.set_cons_succ])
      refine wpAnyH_take (i := 11) (oi := ⟨_, _, _, _, _, _⟩) (v := ?_) rfl (by kernel_rfl) (by kernel_rfl) (by kernel_rfl) (fun _ _ _ h => h) (Or.inl ⟨by rfl, ?_⟩) (by assumption) ?_
      rotate_left
      · intro w hSw
        (try dsimp only at hSw)
        go_simp
        (try with_reducible rfl)
      (try simp only [Act.put, List.setIfInBounds_toArray, List.set_cons_zero, List.set_cons_succ])
      refine wpAnyH_take (i := 12) (oi := ⟨_, _, _, _, _, _⟩) (v := ?_) rfl (by kernel_rfl) (by kernel_rfl) (by kernel_rfl) (fun _ _ _ h => h) (Or.inl ⟨by rfl, ?_⟩) (by assumption) ?_
      rotate_left
      · intro w hSw
        (try dsimp only at hSw)
        go_simp
        (try with_reducible rfl)
      (try simp only [Act.put, List.setIfInBounds_toArray, List.set_cons_zero, List.set_cons_succ])
      refine wpAnyH_take (i := 13) (oi := ⟨_, _, _, _, _, _⟩) (v := ?_) rfl (by kernel_rfl) (by kernel_rfl) (by kernel_rfl) (fun _ _ _ h => h) (Or.inl ⟨by rfl, ?_⟩) (by assumption) ?_
      rotate_left
      · intro w hSw
        (try dsimp only at hSw)
        go_simp
        (try with_reducible rfl)
      (try simp only [Act.put, List.setIfInBounds_toArray, List.set_cons_zero, List.set_cons_succ])
      refine wpAnyH_take (i := 14) (oi := ⟨_, _, _, _, _, _⟩) (v := ?_) rfl (by kernel_rfl) (by kernel_rfl) (by kernel_rfl) (fun _ _ _ h => h) (Or.inl ⟨by rfl, ?_⟩) (by assumption) ?_
      rotate_left
      · intro w hSw
        (try dsimp only at hSw)
        go_simp
        (try with_reducible rfl)
      (try simp only [Act.put, List.setIfInBounds_toArray, List.set_cons_zero, List.set_cons_succ])
      refine wpAnyH_take (i := 15) (oi := ⟨_, _, _, _, _, _⟩) (v := ?_) rfl (by kernel_rfl) (by kernel_rfl) (by kernel_rfl) (fun _ _ _ h => h) (Or.inl ⟨by rfl, ?_⟩) (by assumption) ?_
      rotate_left
      · intro w hSw
        (try dsimp only at hSw)
        go_simp
        (try with_reducible rfl)
      (try simp only [Act.put, List.setIfInBounds_toArray, List.set_cons_zero, List.set_cons_succ])
      refine wpAnyH_take (i := 16) (oi := ⟨_, _, _, _, _, _⟩) (v := ?_) rfl (by kernel_rfl) (by kernel_rfl) (by kernel_rfl) (fun _ _ _ h => h) (Or.inl ⟨by rfl, ?_⟩) (by assumption) ?_
      rotate_left
      · intro w hSw
        (try dsimp only at hSw)
        go_simp
        (try with_reducible rfl)
      (try simp only [Act.put, List.setIfInBounds_toArray, List.set_cons_zero, List.set_cons_succ])
      refine wpAnyH_take (i := 17) (oi := ⟨_, _, _, _, _, _⟩) (v := ?_) rfl (by kernel_rfl) (by kernel_rfl) (by kernel_rfl) (fun _ _ _ h => h) (Or.inl ⟨by rfl, ?_⟩) (by assumption) ?_
      rotate_left
      · intro w hSw
        (try dsimp only at hSw)
        go_simp
        (try with_reducible rfl)
      (try simp only [Act.put, List.setIfInBounds_toArray, List.set_cons_zero, List.set_cons_succ])
      refine wpAnyH_take (i := 18) (oi := ⟨_, _, _, _, _, _⟩) (v := ?_) rfl (by kernel_rfl) (by kernel_rfl) (by kernel_rfl) (fun _ _ _ h => h) (Or.inl ⟨by rfl, ?_⟩) (by assumption) ?_
      rotate_left
      · intro w hSw
        (try dsimp only at hSw)
        go_simp
        (try with_reducible rfl)
      (try simp only [Act.put, List.setIfInBounds_toArray, List.set_cons_zero, List.set_cons_succ])
      refine wpAnyH_take (i := 19) (oi := ⟨_, _, _, _, _, _⟩) (v := ?_) rfl (by kernel_rfl) (by kernel_rfl) (by kernel_rfl) (fun _ _ _ h => h) (Or.inl ⟨by rfl, ?_⟩) (by assumption) ?_
      rotate_left
      · intro w hSw
        (try dsimp only at hSw)
        go_simp
        (try with_reducible rfl)
      (try simp only [Act.put, List.setIfInBounds_toArray, List.set_cons_zero, List.set_cons_succ])
      refine wpAnyH_take (i := 20) (oi := ⟨_, _, _, _, _, _⟩) (v := ?_) rfl (by kernel_rfl) (by kernel_rfl) (by kernel_rfl) (fun _ _ _ h => h) (Or.inl ⟨by rfl, ?_⟩) (by assumption) ?_
      rotate_left
      · intro w hSw
        (try dsimp only at hSw)
        go_simp
        (try with_reducible rfl)
      (try simp only [Act.put, List.setIfInBounds_toArray, List.set_cons_zero, List.set_cons_succ])
      refine wpAnyH_take (i := 21) (oi := ⟨_, _, _, _, _, _⟩) (v := ?_) rfl (by kernel_rfl) (by kernel_rfl) (by kernel_rfl) (fun _ _ _ h => h) (Or.inl ⟨by rfl, ?_⟩) (by assumption) ?_
      rotate_left
      · intro w hSw
        (try dsimp only at hSw)
        go_simp
        (try with_reducible rfl)
      (try simp only [Act.put, List.setIfInBounds_toArray, List.set_cons_zero, List.set_cons_succ])
      refine wpAnyH_take (i := 22) (oi := ⟨_, _, _, _, _, _⟩) (v := ?_) rfl (by kernel_rfl) (by kernel_rfl) (by kernel_rfl) (fun _ _ _ h => h) (Or.inl ⟨by rfl, ?_⟩) (by assumption) ?_
      rotate_left
      · intro w hSw
        (try dsimp only at hSw)
        go_simp
        (try with_reducible rfl)
      (try simp only [Act.put, List.setIfInBounds_toArray, List.set_cons_zero, List.set_cons_succ])
      refine wpAnyH_ready (rs := [23]) (by kernel_rfl) (by simp) ?_
      refine AllReadyH.cons (o := ⟨_, _, _, _, _, _⟩) rfl (fun K hK => ?_) AllReadyH.nil
      go_simp
      (go_at_call 95; refine (boIs_any W H A n c a b v z _ ?_ ?_ ?_).mono ?_; (exact HW.out); (exact HV64.out); (exact HZ64.out); rintro e wx ⟨rfl, hb⟩; (repeat (first | replace hb := below_undrew hb | replace hb := below_undrewN hb)); replace a0 := cell_keep a0 al hb; replace a1 := cell_keep a1 al hb; replace a2 := cell_keep a2 al hb; replace al := lt_keep al hb; replace l0 := cell_keep l0 ll hb; replace l1 := cell_keep l1 ll hb; replace ll := lt_keep ll hb; replace x0 := cell_keep x0 lp hb; replace z0 := cell_keep z0 lp hb; replace lp := lt_keep lp hb; replace y0 := cell_keep y0 lq hb; replace lq := lt_keep lq hb; replace B := Lib.hid (below_next B.out hb); clear hb)
      (try go_wp2_with fail)
      refine hK.out _ _ ?_ (fun hHeld => ?_)
      · (try dsimp only)
        exact ⟨a0, a1, a2, l0, l1, x0, y0, z0⟩
      clear hK K
      (try simp only [Act.put, List.setIfInBounds_toArray, List.set_cons_zero, List.set_cons_succ])
      refine wpAnyH_take (i := 24) (oi := ⟨_, _, _, _, _, _⟩) (v := ?_) rfl (by kernel_rfl) (by kernel_rfl) (by kernel_rfl) (fun _ _ _ h => h) (Or.inl ⟨by rfl, ?_⟩) (by assumption) ?_
      rotate_left
      · intro w hSw
        (try dsimp only at hSw)
        go_simp
        (try with_reducible rfl)
      (try simp only [Act.put, List.setIfInBounds_toArray, List.set_cons_zero, List.set_cons_succ])
      refine wpAnyH_take (i := 25) (oi := ⟨_, _, _, _, _, _⟩) (v := ?_) rfl (by kernel_rfl) (by kernel_rfl) (by kernel_rfl) (fun _ _ _ h => h) (Or.inl ⟨by rfl, ?_⟩) (by assumption) ?_
      rotate_left
      · intro w hSw
        (try dsimp only at hSw)
        go_simp
        (try with_reducible rfl)
      (try simp only [Act.put, List.setIfInBounds_toArray, List.set_cons_zero, List.set_cons_succ])
      refine wpAnyH_done (by kernel_rfl) ?_ _
      go_wp2
      go_ret
      exact ⟨ret_bool (by rw [HJ.out]), B.out⟩
    | false =>
      have H1 := Lib.hid h1
      have HJ := Lib.hid (show jB W a b ps qs i j true = false by rw [jB, HXX.out, HYY.out, h1]; rfl)
      clear h1
      have v10u := v10
      rw [hW2] at v10u
      have v20u := v20
      rw [hW2] at v20u
      go_enter Try.func66, Try.ntmps66
      go_wp2_with fail
      rw [← hW2]
      clear hW2 v10u v20u
      refine wp_region_held_drew (S := fun w' => w'.cell? ⟨w.heap.size, 0, none⟩ = some (.int .i64 W) ∧ w'.cell? ⟨w.heap.size, 1, none⟩ = some (.int .i64 H) ∧ w'.cell? ⟨w.heap.size, 2, none⟩ = some (.slice A n c) ∧ w'.cell? ⟨w.heap.size + 1, 0, none⟩ = some (.int .i64 a) ∧ w'.cell? ⟨w.heap.size + 1, 1, none⟩ = some (.int .i64 b) ∧ w'.cell? ⟨b1, o1 + i, none⟩ = some (.int .i64 x) ∧ w'.cell? ⟨b2, o2 + j, none⟩ = some (.int .i64 y) ∧ w'.cell? ⟨b1, o1 + e3, none⟩ = some (.int .i64 z)) (by kernel_rfl) ?_ (fun hHeld => ?_)
      · (try dsimp only)
        exact ⟨a0, a1, a2, l0, l1, x0, y0, z0⟩
      refine wpAnyH_take (i := 0) (oi := ⟨_, _, _, _, _, _⟩) (v := ?_) rfl (by kernel_rfl) (by kernel_rfl) (by kernel_rfl) (fun _ _ _ h => h) (Or.inl ⟨by rfl, ?_⟩) (by assumption) ?_
      rotate_left
      · intro w hSw
        (try dsimp only at hSw)
        go_simp
        (try with_reducible rfl)
      (try simp only [Act.put, List.setIfInBounds_toArray, List.set_cons_zero, List.set_cons_succ])
      refine wpAnyH_take (i := 1) (oi := ⟨_, _, _, _, _, _⟩) (v := ?_) rfl (by kernel_rfl) (by kernel_rfl) (by kernel_rfl) (fun _ _ _ h => h) (Or.inl ⟨by rfl, ?_⟩) (by assumption) ?_
      rotate_left
      · intro w hSw
        (try dsimp only at hSw)
        go_simp
        (try with_reducible rfl)
      (try simp only [Act.put, List.setIfInBounds_toArray, List.set_cons_zero, List.set_cons_succ])
      refine wpAnyH_take (i := 2) (oi := ⟨_, _, _, _, _, _⟩) (v := ?_) rfl (by kernel_rfl) (by kernel_rfl) (by kernel_rfl) (fun _ _ _ h => h) (Or.inl ⟨by rfl, ?_⟩) (by assumption) ?_
      rotate_left
      · intro w hSw
        (try dsimp only at hSw)
        go_simp
        (try with_reducible rfl)
      (try simp only [Act.put, List.setIfInBounds_toArray, List.set_cons_zero, List.set_cons_succ])
      refine wpAnyH_take (i := 3) (oi := ⟨_, _, _, _, _, _⟩) (v := ?_) rfl (by kernel_rfl) (by kernel_rfl) (by kernel_rfl) (fun _ _ _ h => h) (Or.inl ⟨by rfl, ?_⟩) (by assumption) ?_
      rotate_left
      · intro w hSw
        (try dsimp only at hSw)
        go_simp
        (try with_reducible rfl)
      (try simp only [Act.put, List.setIfInBounds_toArray, List.set_cons_zero, List.set_cons_succ])
      refine wpAnyH_take (i := 4) (oi := ⟨_, _, _, _, _, _⟩) (v := ?_) rfl (by kernel_rfl) (by kernel_rfl) (by kernel_rfl) (fun _ _ _ h => h) (Or.inl ⟨by rfl, ?_⟩) (by assumption) ?_
      rotate_left
      · intro w hSw
        (try dsimp only at hSw)
        go_simp
        (try with_reducible rfl)
      (try simp only [Act.put, List.setIfInBounds_toArray, List.set_cons_zero, List.set_cons_succ])
      refine wpAnyH_take (i := 5) (oi := ⟨_, _, _, _, _, _⟩) (v := ?_) rfl (by kernel_rfl) (by kernel_rfl) (by kernel_rfl) (fun _ _ _ h => h) (Or.inl ⟨by rfl, ?_⟩) (by assumption) ?_
      rotate_left
      · intro w hSw
        (try dsimp only at hSw)
        go_simp
        (try with_reducible rfl)
      (try simp only [Act.put, List.setIfInBounds_toArray, List.set_cons_zero, List.set_cons_succ])
      refine wpAnyH_take (i := 6) (oi := ⟨_, _, _, _, _, _⟩) (v := ?_) rfl (by kernel_rfl) (by kernel_rfl) (by kernel_rfl) (fun _ _ _ h => h) (Or.inl ⟨by rfl, ?_⟩) (by assumption) ?_
      rotate_left
      · intro w hSw
        (try dsimp only at hSw)
        go_simp
        (try with_reducible rfl)
      (try simp only [Act.put, List.setIfInBounds_toArray, List.set_cons_zero, List.set_cons_succ])
      refine wpAnyH_take (i := 7) (oi := ⟨_, _, _, _, _, _⟩) (v := ?_) rfl (by kernel_rfl) (by kernel_rfl) (by kernel_rfl) (fun _ _ _ h => h) (Or.inl ⟨by rfl, ?_⟩) (by assumption) ?_
      rotate_left
      · intro w hSw
        (try dsimp only at hSw)
        go_simp
        (try with_reducible rfl)
      (try simp only [Act.put, List.setIfInBounds_toArray, List.set_cons_zero, List.set_cons_succ])
      refine wpAnyH_take (i := 8) (oi := ⟨_, _, _, _, _, _⟩) (v := ?_) rfl (by kernel_rfl) (by kernel_rfl) (by kernel_rfl) (fun _ _ _ h => h) (Or.inl ⟨by rfl, ?_⟩) (by assumption) ?_
      rotate_left
      · intro w hSw
        (try dsimp only at hSw)
        go_simp
        (try with_reducible rfl)
      (try simp only [Act.put, List.setIfInBounds_toArray, List.set_cons_zero, List.set_cons_succ])
      refine wpAnyH_take (i := 9) (oi := ⟨_, _, _, _, _, _⟩) (v := ?_) rfl (by kernel_rfl) (by kernel_rfl) (by kernel_rfl) (fun _ _ _ h => h) (Or.inl ⟨by rfl, ?_⟩) (by assumption) ?_
      rotate_left
      · intro w hSw
        (try dsimp only at hSw)
        go_simp
        (try with_reducible rfl)
      (try simp only [Act.put, List.setIfInBounds_toArray, List.set_cons_zero, List.set_cons_succ])
      refine wpAnyH_ready (rs := [10]) (by kernel_rfl) (by simp) ?_
      refine AllReadyH.cons (o := ⟨_, _, _, _, _, _⟩) rfl (fun K hK => ?_) AllReadyH.nil
      go_simp
      (go_at_call 95; refine (boIs_any W H A n c a b x y _ ?_ ?_ ?_).mono ?_; (exact HW.out); (exact HX64.out); (exact HY64.out); rw [H1.out]; rintro e wx ⟨rfl, hb⟩; (repeat (first | replace hb := below_undrew hb | replace hb := below_undrewN hb)); replace a0 := cell_keep a0 al hb; replace a1 := cell_keep a1 al hb; replace a2 := cell_keep a2 al hb; replace al := lt_keep al hb; replace l0 := cell_keep l0 ll hb; replace l1 := cell_keep l1 ll hb; replace ll := lt_keep ll hb; replace x0 := cell_keep x0 lp hb; replace z0 := cell_keep z0 lp hb; replace lp := lt_keep lp hb; replace y0 := cell_keep y0 lq hb; replace lq := lt_keep lq hb; replace B := Lib.hid (below_next B.out hb); clear hb)
      (try go_wp2_with fail)
      refine hK.out _ _ ?_ (fun hHeld => ?_)
      · (try dsimp only)
        exact ⟨a0, a1, a2, l0, l1, x0, y0, z0⟩
      clear hK K
      (try simp only [Act.put, List.setIfInBounds_toArray, List.set_cons_zero, List.set_cons_succ])
      refine wpAnyH_take (i := 11) (oi := ⟨_, _, _, _, _, _⟩) (v := ?_) rfl (by kernel_rfl) (by kernel_rfl) (by kernel_rfl) (fun _ _ _ h => h) (Or.inl ⟨by rfl, ?_⟩) (by assumption) ?_
      rotate_left
      · intro w hSw
        (try dsimp only at hSw)
        go_simp
        (try with_reducible rfl)
      (try simp only [Act.put, List.setIfInBounds_toArray, List.set_cons_zero, List.set_cons_succ])
      refine wpAnyH_take (i := 12) (oi := ⟨_, _, _, _, _, _⟩) (v := undef) rfl (by kernel_rfl) (by kernel_rfl) (by kernel_rfl) (fun _ _ _ h => h) (Or.inr ⟨by rfl, rfl⟩) (by assumption) ?_
      (try simp only [Act.put, List.setIfInBounds_toArray, List.set_cons_zero, List.set_cons_succ])
      refine wpAnyH_take (i := 13) (oi := ⟨_, _, _, _, _, _⟩) (v := undef) rfl (by kernel_rfl) (by kernel_rfl) (by kernel_rfl) (fun _ _ _ h => h) (Or.inr ⟨by rfl, rfl⟩) (by assumption) ?_
      (try simp only [Act.put, List.setIfInBounds_toArray, List.set_cons_zero, List.set_cons_succ])
      refine wpAnyH_take (i := 14) (oi := ⟨_, _, _, _, _, _⟩) (v := undef) rfl (by kernel_rfl) (by kernel_rfl) (by kernel_rfl) (fun _ _ _ h => h) (Or.inr ⟨by rfl, rfl⟩) (by assumption) ?_
      (try simp only [Act.put, List.setIfInBounds_toArray, List.set_cons_zero, List.set_cons_succ])
      refine wpAnyH_take (i := 15) (oi := ⟨_, _, _, _, _, _⟩) (v := undef) rfl (by kernel_rfl) (by kernel_rfl) (by kernel_rfl) (fun _ _ _ h => h) (Or.inr ⟨by rfl, rfl⟩) (by assumption) ?_
      (try simp only [Act.put, List.setIfInBounds_toArray, List.set_cons_zero, List.set_cons_succ])
      refine wpAnyH_take (i := 16) (oi := ⟨_, _, _, _, _, _⟩) (v := undef) rfl (by kernel_rfl) (by kernel_rfl) (by kernel_rfl) (fun _ _ _ h => h) (Or.inr ⟨by rfl, rfl⟩) (by assumption) ?_
      (try simp only [Act.put, List.setIfInBounds_toArray, List.set_cons_zero, List.set_cons_succ])
      refine wpAnyH_take (i := 17) (oi := ⟨_, _, _, _, _, _⟩) (v := undef) rfl (by kernel_rfl) (by kernel_rfl) (by kernel_rfl) (fun _ _ _ h => h) (Or.inr ⟨by rfl, rfl⟩) (by assumption) ?_
      (try simp only [Act.put, List.setIfInBounds_toArray, List.set_cons_zero, List.set_cons_succ])
      refine wpAnyH_take (i := 18) (oi := ⟨_, _, _, _, _, _⟩) (v := undef) rfl (by kernel_rfl) (by kernel_rfl) (by kernel_rfl) (fun _ _ _ h => h) (Or.inr ⟨by rfl, rfl⟩) (by assumption) ?_
      (try simp only [Act.put, List.setIfInBounds_toArray, List.set_cons_zero, List.set_cons_succ])
      refine wpAnyH_take (i := 19) (oi := ⟨_, _, _, _, _, _⟩) (v := undef) rfl (by kernel_rfl) (by kernel_rfl) (by kernel_rfl) (fun _ _ _ h => h) (Or.inr ⟨by rfl, rfl⟩) (by assumption) ?_
      (try simp only [Act.put, List.setIfInBounds_toArray, List.set_cons_zero, List.set_cons_succ])
      refine wpAnyH_take (i := 20) (oi := ⟨_, _, _, _, _, _⟩) (v := undef) rfl (by kernel_rfl) (by kernel_rfl) (by kernel_rfl) (fun _ _ _ h => h) (Or.inr ⟨by rfl, rfl⟩) (by assumption) ?_
      (try simp only [Act.put, List.setIfInBounds_toArray, List.set_cons_zero, List.set_cons_succ])
      refine wpAnyH_take (i := 21) (oi := ⟨_, _, _, _, _, _⟩) (v := undef) rfl (by kernel_rfl) (by kernel_rfl) (by kernel_rfl) (fun _ _ _ h => h) (Or.inr ⟨by rfl, rfl⟩) (by assumption) ?_
      (try simp only [Act.put, List.setIfInBounds_toArray, List.set_cons_zero, List.set_cons_succ])
      refine wpAnyH_take (i := 22) (oi := ⟨_, _, _, _, _, _⟩) (v := undef) rfl (by kernel_rfl) (by kernel_rfl) (by kernel_rfl) (fun _ _ _ h => h) (Or.inr ⟨by rfl, rfl⟩) (by assumption) ?_
      (try simp only [Act.put, List.setIfInBounds_toArray, List.set_cons_zero, List.set_cons_succ])
      refine wpAnyH_take (i := 23) (oi := ⟨_, _, _, _, _, _⟩) (v := undef) rfl (by kernel_rfl) (by kernel_rfl) (by kernel_rfl) (fun _ _ _ h => h) (Or.inr ⟨by rfl, rfl⟩) (by assumption) ?_
      (try simp only [Act.put, List.setIfInBounds_toArray, List.set_cons_zero, List.set_cons_succ])
      refine wpAnyH_take (i := 24) (oi := ⟨_, _, _, _, _, _⟩) (v := ?_) rfl (by kernel_rfl) (by kernel_rfl) (by kernel_rfl) (fun _ _ _ h => h) (Or.inl ⟨by rfl, ?_⟩) (by assumption) ?_
      rotate_left
      · intro w hSw
        (try dsimp only at hSw)
        go_simp
        (try with_reducible rfl)
      (try simp only [Act.put, List.setIfInBounds_toArray, List.set_cons_zero, List.set_cons_succ])
      refine wpAnyH_take (i := 25) (oi := ⟨_, _, _, _, _, _⟩) (v := ?_) rfl (by kernel_rfl) (by kernel_rfl) (by kernel_rfl) (fun _ _ _ h => h) (Or.inl ⟨by rfl, ?_⟩) (by assumption) ?_
      rotate_left
      · intro w hSw
        (try dsimp only at hSw)
        go_simp
        (try with_reducible rfl)
      (try simp only [Act.put, List.setIfInBounds_toArray, List.set_cons_zero, List.set_cons_succ])
      refine wpAnyH_done (by kernel_rfl) ?_ _
      go_wp2
      go_ret
      exact ⟨ret_bool (by rw [HJ.out]), B.out⟩

end Go.Proofs.Ytphjkmikleldcaa
