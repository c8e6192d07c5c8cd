/-
  Contracts: joins of two closed walks in the program; CountJoins.
-/
import Derived.Test.YtphjkmikleldcaaZD
import Derived.Test.YtphjkmikleldcaaMem2
import Derived.Test.YtphjkmikleldcaaZ6
namespace Go.Proofs.Ytphjkmikleldcaa
open Go.RowKit

def LprAt (w : World) (g : Nat) (a b : Int) : Prop := w.cell? ⟨g, 0, none⟩ = some (.int .i64 a) ∧ w.cell? ⟨g, 1, none⟩ = some (.int .i64 b) ∧ g < w.heap.size
theorem LprAt.keep {w w' : World} {g : Nat} {a b : Int} (h : LprAt w g a b) (hb : Below w.heap.size w w') : LprAt w' g a b := ⟨cell_keep h.1 h.2.2 hb, cell_keep h.2.1 h.2.2 hb, lt_keep h.2.2 hb⟩

set_option maxHeartbeats 1000000 in
theorem notEnd_any (g1 g2 : Nat) (W H : Int) (A : Option Addr) (n c : Nat) (a b : Int) (A2 : Option Addr) (m c2 : Nat) (ps : List Int) (w : World) (hat : BrdAt w g1 W H A n c) (hlt : LprAt w g2 a b) (hp : Rd w A2 m ps) (hW : 1 ≤ W ∧ W ≤ 8) (h64 : ∀ x ∈ ps, 0 ≤ x ∧ x < 64) :
    Calls Try.prog 98 #[.slice A2 m c2, .pointer (some ⟨g1, 0, none⟩), .pointer (some ⟨g2, 0, none⟩)] w fun e w' => e = .returned (.bool (!endB W a b ps)) ∧ Below w.heap.size w w' := by
  obtain ⟨b0, b1, b2, bl⟩ := hat
  obtain ⟨l0, l1, ll⟩ := hlt
  have HP := Lib.hid hp; have HW := Lib.hid hW; have H64 := Lib.hid h64
  clear hp hW h64
  go_enter Try.func98, Try.ntmps98
  go_wp2_with fail
  refine (isClosed_any W H A n c a b A2 m c2 ps _ HP.out HW.out H64.out).mono ?_
  rintro e wv ⟨rfl, hb⟩
  go_wp2
  go_ret
  exact ⟨rfl, hb⟩

set_option maxRecDepth 100000 in
set_option maxHeartbeats 2000000 in
theorem indexEnd_any (g1 g2 g N : Nat) (W H : Int) (A : Option Addr) (n c : Nat) (a b : Int) (pss : List (List Int)) (w : World) (hat : BrdAt w g1 W H A n c) (hlt : LprAt w g2 a b) (hp : WalksAt w g pss) (hN : pss.length = N) (hN9 : N ≤ 1000) (hW : 1 ≤ W ∧ W ≤ 8) (h64 : ∀ ps ∈ pss, ∀ x ∈ ps, 0 ≤ x ∧ x < 64) :
    Calls Try.prog 120 #[.slice (some ⟨g, 0, none⟩) N N, .func (.func 98) #[] #[.pointer (some ⟨g1, 0, none⟩), .pointer (some ⟨g2, 0, none⟩)]] w fun e w' => ∃ r : Int, e = .returned (.int .i64 r) ∧ -1 ≤ r ∧ decide (0 ≤ r) = (!pss.all (endB W a b)) ∧ Below w.heap.size w w' := by
  have HAT := Lib.hid hat; have HLT := Lib.hid hlt; have HP := Lib.hid hp; have HW := Lib.hid hW; have H64 := Lib.hid h64
  have HN := Lib.hid hN
  clear hat hlt hp hW h64 hN
  go_enter Try.func120, Try.ntmps120
  go_wp2
  go_loopw [8] (fun i wr => ∃ k : Nat, k ≤ N ∧ i = .int .i64 k ∧ (pss.take k).all (endB W a b) = true ∧ Below w.heap.size w wr) (fun i _ => N - (intOf i).toNat)
  case atStart => exact ⟨0, Nat.zero_le _, rfl, by simp, Below.refl _ _⟩
  case round =>
    obtain ⟨k, hk, rfl, hno, hbw⟩ := hrel
    have HNO := Lib.hid hno
    have HB := Lib.hid hbw
    clear hno
    by_cases hkN : k < N
    · obtain ⟨ps, hps⟩ : ∃ ps, pss[k]? = some ps := ⟨_, List.getElem?_eq_getElem (show k < pss.length by have := HN.out; omega)⟩
      have HPS := Lib.hid hps
      obtain ⟨A3, n3, c3, y0, hr⟩ := (HP.out.keep hbw).2 k ps hps
      have hK := notEnd_any g1 g2 W H A n c a b A3 n3 c3 ps wr (HAT.out.keep hbw) (HLT.out.keep hbw) hr HW.out (H64.out ps (List.mem_of_getElem? hps))
      clear hps hr hbw
      cases hsm : endB W a b ps with
      | true =>
        have HS := Lib.hid hsm
        rw [hsm] at hK
        clear hsm
        go_wp2_with fail
        refine hK.mono ?_
        rintro e wv ⟨rfl, hb⟩
        replace HB := Lib.hid (HB.out.trans (hb.mono HB.out.size))
        clear hb hK y0
        go_wp2
        go_roundw
        case rel => exact ⟨k + 1, by omega, by go_num, (by rw [List.take_add_one, HPS.out, List.all_append, HNO.out]; show (true && (endB W a b ps && true)) = true; rw [HS.out]; rfl), HB.out⟩
        case measure => simp [intOf]; omega
      | false =>
        have HS := Lib.hid hsm
        rw [hsm] at hK
        clear hsm
        go_wp2_with fail
        refine hK.mono ?_
        rintro e wv ⟨rfl, hb⟩
        replace HB := Lib.hid (HB.out.trans (hb.mono HB.out.size))
        clear hb hK y0
        go_wp2
        go_ret
        exact ⟨(k : Int), rfl, by omega, (by rw [show pss.all (endB W a b) = false from List.all_eq_false.2 ⟨ps, List.mem_of_getElem? HPS.out, by rw [HS.out]; simp⟩]; simp), HB.out⟩
    · have hkn : k = N := by omega
      subst hkn
      clear hbw
      go_wp2
      go_ret
      exact ⟨-1, rfl, by omega, (by have h := HNO.out; rw [List.take_of_length_le (by have := HN.out; omega)] at h; rw [h]; simp), HB.out⟩

set_option maxHeartbeats 1000000 in
theorem containsEnd_any (g1 g2 g N : Nat) (W H : Int) (A : Option Addr) (n c : Nat) (a b : Int) (pss : List (List Int)) (w : World) (hat : BrdAt w g1 W H A n c) (hlt : LprAt w g2 a b) (hp : WalksAt w g pss) (hN : pss.length = N) (hN9 : N ≤ 1000) (hW : 1 ≤ W ∧ W ≤ 8) (h64 : ∀ ps ∈ pss, ∀ x ∈ ps, 0 ≤ x ∧ x < 64) :
    Calls Try.prog 97 #[.slice (some ⟨g, 0, none⟩) N N, .func (.func 98) #[] #[.pointer (some ⟨g1, 0, none⟩), .pointer (some ⟨g2, 0, none⟩)]] w fun e w' => e = .returned (.bool (!pss.all (endB W a b))) ∧ Below w.heap.size w w' := by
  have hI := indexEnd_any g1 g2 g N W H A n c a b pss w hat hlt hp hN hN9 hW h64
  clear hat hlt hp hN hW h64
  go_enter Try.func97, Try.ntmps97
  go_wp2_with fail
  refine hI.mono ?_
  rintro e wv ⟨r, rfl, hr1, hr3, hb⟩
  have HR := Lib.hid hr3
  clear hI hr3
  go_wp2
  go_ret
  exact ⟨ret_bool (by rw [← HR.out]), hb⟩

def okPair (W H : Int) (xs : List Int) (a b : Int) (ps qs : List Int) : Bool := okWk W H xs a b ps && okWk W H xs a b qs && apartB ps qs
theorem two_pair (W H : Int) (xs : List Int) (a b : Int) (ps qs : List Int) : okTwo2 W H xs a b ps qs = (okPair W H xs a b ps qs && [ps, qs].all (endB W a b)) := by
  rw [okTwo2, okPair, apart_comm ps qs]
  simp only [List.all_cons, List.all_nil, Bool.and_true]
  cases okWk W H xs a b ps <;> cases okWk W H xs a b qs <;> cases apartB qs ps <;> simp

set_option maxRecDepth 100000 in
set_option maxHeartbeats 2000000 in
theorem areClosed_any (W H : Int) (A : Option Addr) (n c : Nat) (xs : List Int) (a b : Int) (g : Nat) (ps qs : List Int) (w : World) (ha : Rd w A n xs) (hp : WalksAt w g [ps, qs]) :
    Calls Try.prog 67 #[brd W H A n c, lpr a b, .slice (some ⟨g, 0, none⟩) 2 2] w fun e w' => e = .returned (.bool (okTwo2 W H xs a b ps qs)) ∧ Below w.heap.size w w' := by
  obtain ⟨W2, hW2⟩ : ∃ W2, W2 = (w.alloc (.cells #[.int .i64 W, .int .i64 H, .slice A n c] 30)).alloc (.cells #[.int .i64 a, .int .i64 b] 32) := ⟨_, rfl⟩
  have a0 : W2.cell? ⟨w.heap.size, 0, none⟩ = some (.int .i64 W) := by rw [hW2]; go_simp
  have a1 : W2.cell? ⟨w.heap.size, 1, none⟩ = some (.int .i64 H) := by rw [hW2]; go_simp
  have a2 : W2.cell? ⟨w.heap.size, 2, none⟩ = some (.slice A n c) := by rw [hW2]; go_simp
  have l0 : W2.cell? ⟨w.heap.size + 1, 0, none⟩ = some (.int .i64 a) := by rw [hW2]; go_simp
  have l1 : W2.cell? ⟨w.heap.size + 1, 1, none⟩ = some (.int .i64 b) := by rw [hW2]; go_simp
  have al : w.heap.size < W2.heap.size := by rw [hW2]; simp; omega
  have ll : w.heap.size + 1 < W2.heap.size := by rw [hW2]; simp
  have B := Lib.hid (show Below w.heap.size w W2 by rw [hW2]; exact ((Below.refl _ _).alloc (Nat.le_refl _) _).alloc (by simp) _)
  have R := Lib.hid (ha.keep B.out); have WA := Lib.hid (hp.keep B.out)
  clear ha hp
  cases hok : okPair W H xs a b ps qs with
  | true =>
    have HOK := Lib.hid hok
    have h3 : okWk W H xs a b ps = true ∧ okWk W H xs a b qs = true := by simp only [okPair, Bool.and_eq_true] at hok; exact hok.1
    have HW := Lib.hid (ok_W h3.1)
    have H64 := Lib.hid (show ∀ l ∈ [ps, qs], ∀ x ∈ l, 0 ≤ x ∧ x < 64 from fun l hl => by
      simp only [List.mem_cons, List.not_mem_nil, or_false] at hl
      rcases hl with rfl | rfl
      · exact ok_64 h3.1
      · exact ok_64 h3.2)
    clear hok h3
    go_enter Try.func67, Try.ntmps67
    go_wp2_with fail
    rw [← hW2]
    clear hW2
    refine (areWalks_any W H A n c xs a b g 2 [ps, qs] _ R.out WA.out rfl (by decide)).mono ?_
    rw [wks_both, show (okWk W H xs a b ps && okWk W H xs a b qs && apartB ps qs) = true from HOK.out]
    rintro e wv ⟨rfl, hb⟩
    have BA := Lib.hid (BrdAt.keep (show BrdAt W2 w.heap.size W H A n c from ⟨a0, a1, a2, al⟩) hb)
    have LA := Lib.hid (LprAt.keep (show LprAt W2 (w.heap.size + 1) a b from ⟨l0, l1, ll⟩) hb)
    replace WA := Lib.hid (WA.out.keep hb)
    replace B := Lib.hid (below_next B.out hb)
    clear hb a0 a1 a2 l0 l1 al ll R
    go_wp2_with fail
    refine (containsEnd_any _ _ g 2 W H A n c a b [ps, qs] _ BA.out LA.out WA.out rfl (by decide) HW.out H64.out).mono ?_
    rintro e wx ⟨rfl, hb⟩
    replace B := Lib.hid (below_next B.out hb)
    clear hb BA LA WA
    go_wp2
    go_ret
    exact ⟨ret_bool (by rw [two_pair, HOK.out]; simp), B.out⟩
  | false =>
    have HOK := Lib.hid hok
    clear hok
    go_enter Try.func67, Try.ntmps67
    go_wp2_with fail
    rw [← hW2]
    clear hW2
    refine (areWalks_any W H A n c xs a b g 2 [ps, qs] _ R.out WA.out rfl (by decide)).mono ?_
    rw [wks_both, show (okWk W H xs a b ps && okWk W H xs a b qs && apartB ps qs) = false from HOK.out]
    rintro e wv ⟨rfl, hb⟩
    replace B := Lib.hid (below_next B.out hb)
    clear hb a0 a1 a2 l0 l1 al ll R WA
    go_wp2
    go_ret
    exact ⟨ret_bool (by rw [two_pair, HOK.out]; rfl), B.out⟩

set_option maxHeartbeats 1000000 in
theorem around_any (A2 : Option Addr) (m c2 : Nat) (ps : List Int) (d : Int) (e : Nat) (x : Int) (w : World) (hp : Rd w A2 m ps) (he : e < m) (hx : ps[e]? = some x) (hm : m ≤ 64) (hd : -1 ≤ d ∧ d ≤ 100) (hde : (d + (m : Int)).tmod (m : Int) = (e : Int)) :
    Calls Try.prog 99 #[.slice A2 m c2, .int .i64 d] w fun r w' => r = .returned (.int .i64 x) ∧ Below w.heap.size w w' := by
  obtain ⟨bb, oo, x', rfl, -, hx', x0⟩ := hp.at_ he
  rw [hx] at hx'
  injection hx' with hx'
  subst hx'
  obtain ⟨hd1, hd2⟩ := hd
  have hw1 : IntKind.i64.wrap (d + (m : Int)) = d + (m : Int) := IntWalk.i64_in _ (by omega)
  have hme : ¬ (m : Int) = 0 := by omega
  have hme' : ¬ m = 0 := by omega
  have ge : (0 : Int) ≤ (e : Int) := by omega
  have le : (e : Int) < (m : Int) := by omega
  have hwe : IntKind.i64.wrap (e : Int) = (e : Int) := IntWalk.i64_in _ (by omega)
  clear hp hx
  go_enter Try.func99, Try.ntmps99
  go_wp2
  go_ret
  exact ⟨rfl, Below.refl _ _⟩

end Go.Proofs.Ytphjkmikleldcaa
