/-
  Contracts: PathText.
-/
import Derived.Test.YtadopgfpfbianaaN1
import Derived.Test.YtadopgfpfbianaaShelf
namespace Go.Proofs.Ytadopgfpfbianaa
open Go.RowKit

def okText (W H : Int) (xs ps : List Int) : Bool := goodB W H xs && (decide (ps.length ≤ 64) && ps.all (hasB W H xs))
def textV (W H : Int) (xs ps : List Int) : ByteArray := if okText W H xs ps then txt W ps else ⟨#[]⟩
theorem cell_facts {W H x : Int} {xs : List Int} (hg : goodB W H xs = true) (h : hasB W H xs x = true) : (0 ≤ x ∧ x ≤ 64) ∧ (0 ≤ x / W ∧ x / W ≤ 7) ∧ (0 ≤ x % W ∧ x % W ≤ 7) := by
  obtain ⟨hW, hH, _, _⟩ := goodB_iff.1 hg
  have h1 := (hasB_iff.1 h).1
  have h2 := cells_le hW hH
  have h3 := div_bd hW h1
  have h4 := mod_bd (c := x) hW
  refine ⟨by omega, by omega, by omega⟩
theorem txt_step {W x : Int} {ps : List Int} {k : Nat} (hx : ps[k]? = some x) (hk : 0 < k) : txt W (ps.take (k + 1)) = txt W (ps.take k) ++ ⟨#[45]⟩ ++ nmS W x := by
  rw [List.take_add_one, hx]
  exact txt_snoc (fun e => by have h3 : (ps.take k).length = 0 := (by rw [e]; rfl); rw [List.length_take] at h3; have h2 := (List.getElem?_eq_some_iff.1 hx).1; omega)
theorem txt_first {W x : Int} {ps : List Int} (hx : ps[0]? = some x) : txt W (ps.take 1) = nmS W x := by
  rw [List.take_add_one, hx, List.take_zero]; exact txt_one W x

theorem empty_app (b : ByteArray) : (⟨#[]⟩ : ByteArray) ++ b = b := by
  cases b with | mk b => exact congrArg ByteArray.mk (Array.toList_inj.1 ((Go.Joins.data_append ⟨#[]⟩ ⟨b⟩).trans (by simp)))

set_option maxRecDepth 100000 in
set_option maxHeartbeats 1000000 in
theorem boText_any (W H : Int) (A : Option Addr) (n c : Nat) (xs : List Int) (A2 : Option Addr) (m c2 : Nat) (ps : List Int) (w : World) (hp : Rd w A2 m ps) (hg : goodB W H xs = true) (hm : m ≤ 64) (hall : ∀ x ∈ ps, hasB W H xs x = true) :
    Calls Try.prog 69 #[brd W H A n c, .slice A2 m c2] w fun e w' => e = .returned (.string (txt W ps)) ∧ Below w.heap.size w w' := by
  obtain ⟨W2, hW2⟩ : ∃ W2, W2 = w.alloc (.cells #[.int .i64 W, .int .i64 H, .slice A n c] 24) := ⟨_, rfl⟩
  have hsz : W2.heap.size = w.heap.size + 1 := by rw [hW2]; simp
  have a0 : W2.cell? ⟨w.heap.size, 0, none⟩ = some (.int .i64 W) := by rw [hW2]; go_simp
  have a1 : W2.cell? ⟨w.heap.size, 1, none⟩ = some (.int .i64 H) := by rw [hW2]; go_simp
  have a2 : W2.cell? ⟨w.heap.size, 2, none⟩ = some (.slice A n c) := by rw [hW2]; go_simp
  have al : w.heap.size < W2.heap.size := by omega
  have B := Lib.hid (show Below w.heap.size w W2 by rw [hW2]; exact below_new (Below.refl _ _) _)
  have RP := Lib.hid (hp.keep B.out)
  have HPL := Lib.hid hp.1
  have HG := Lib.hid hg; have HALL := Lib.hid hall
  have HW := Lib.hid (goodB_iff.1 hg).1
  have HA := Lib.hid (⟨a0, a1, a2, al⟩ : W2.cell? ⟨w.heap.size, 0, none⟩ = some (.int .i64 W) ∧ W2.cell? ⟨w.heap.size, 1, none⟩ = some (.int .i64 H) ∧ W2.cell? ⟨w.heap.size, 2, none⟩ = some (.slice A n c) ∧ w.heap.size < W2.heap.size)
  clear hp hg hall a0 a1 a2 al hsz
  go_enter Try.func69, Try.ntmps69
  go_wp2_with fail
  rw [← hW2]
  clear hW2
  go_loopw [5, 10] (fun s i wr => ∃ (k : Nat) (S : ByteArray), k ≤ m ∧ i = .int .i64 k ∧ s = .string S ∧ S = txt W (ps.take k) ∧ Below W2.heap.size W2 wr) (fun _ i _ => m - (intOf i).toNat)
  case atStart => exact ⟨0, _, Nat.zero_le _, rfl, rfl, rfl, Below.refl _ _⟩
  case round =>
    obtain ⟨k, S, hk, rfl, rfl, hS, hbw⟩ := hrel
    have HS := Lib.hid hS
    have hb := hbw
    have hS9 : S.size ≤ 192 := by
      rw [hS]; have := txt_size W _ (ps.take k) rfl; rw [List.length_take] at this; omega
    obtain ⟨a0, a1, a2, al⟩ := HA.out
    replace a0 := cell_keep a0 al hb; replace a1 := cell_keep a1 al hb; replace a2 := cell_keep a2 al hb; replace al := lt_keep al hb
    have HB := Lib.hid hbw
    have RR := Lib.hid (RP.out.keep hbw)
    clear hS hbw hb
    by_cases hlt : k < m
    · obtain ⟨bb, oo, x, rfl, hg1, hx, x0⟩ := RR.out.at_ hlt
      have HX := Lib.hid hx
      have CF := Lib.hid (cell_facts HG.out (HALL.out x (List.mem_of_getElem? hx)))
      have hn2 : (nmS W x).size = 2 := rfl
      have h45 : (⟨#[45]⟩ : ByteArray).size = 1 := rfl
      clear hx
      rcases Nat.eq_zero_or_pos k with h0 | h0
      · subst h0
        rw [Nat.add_zero] at x0
        go_wp2_with fail
        refine (boName_any W H _ _ _ x _ HW.out CF.out.1 CF.out.2.1 CF.out.2.2).mono ?_
        rintro e wz ⟨rfl, hb⟩
        replace HB := Lib.hid (below_next HB.out hb)
        clear hb a0 a1 a2 al x0
        have HE := Lib.hid (show S ++ nmS W x = txt W (ps.take 1) by rw [HS.out, txt_first HX.out, List.take_zero, txt_nil]; exact empty_app _)
        have hfit : (S ++ nmS W x).size ≤ maxLen := by rw [ByteArray.size_append]; unfold maxLen; omega
        obtain ⟨u, hu⟩ : ∃ u, u = nmS W x := ⟨_, rfl⟩
        rw [show nameS (x % W) (x / W) = u from hu.symm]
        rw [← hu] at HE hn2 hfit
        clear hu
        go_wp2
        go_roundw
        case rel => exact ⟨1, _, by omega, by go_num, rfl, HE.out, HB.out⟩
        case measure => simp [intOf]; omega
      · have hk0 : (0 : Int) < (k : Int) := by omega
        have hfit1 : (S ++ ⟨#[45]⟩).size ≤ maxLen := by rw [ByteArray.size_append]; unfold maxLen; omega
        go_wp2_with fail
        refine (boName_any W H _ _ _ x _ HW.out CF.out.1 CF.out.2.1 CF.out.2.2).mono ?_
        rintro e wz ⟨rfl, hb⟩
        replace HB := Lib.hid (below_next HB.out hb)
        clear hb a0 a1 a2 al x0
        have HE := Lib.hid (show S ++ ⟨#[45]⟩ ++ nmS W x = txt W (ps.take (k + 1)) by rw [HS.out, txt_step HX.out h0])
        have hfit : (S ++ ⟨#[45]⟩ ++ nmS W x).size ≤ maxLen := by rw [ByteArray.size_append, ByteArray.size_append]; unfold maxLen; omega
        obtain ⟨u, hu⟩ : ∃ u, u = nmS W x := ⟨_, rfl⟩
        rw [show nameS (x % W) (x / W) = u from hu.symm]
        rw [← hu] at HE hn2 hfit
        clear hu
        go_wp2
        go_roundw
        case rel => exact ⟨k + 1, _, by omega, by go_num, rfl, HE.out, HB.out⟩
        case measure => simp [intOf]; omega
    · go_wp2
      go_ret
      exact ⟨by have h := HS.out; rw [List.take_of_length_le (by have := HPL.out; omega)] at h; rw [h]; rfl, B.out.trans (HB.out.mono B.out.size)⟩

end Go.Proofs.Ytadopgfpfbianaa
