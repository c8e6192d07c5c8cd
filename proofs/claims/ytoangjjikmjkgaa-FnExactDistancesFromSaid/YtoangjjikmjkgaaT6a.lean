/-
  Contracts: DistancesFrom.
-/
import Derived.Test.YtoangjjikmjkgaaT5a
namespace Go.Proofs.Ytoangjjikmjkgaa
open Go.RowKit

theorem onB_same {W H a b p : Int} {xs : List Int} : onB W H xs a b [p, p] = onB W H xs a b [p] := by simp [onB]
theorem onB_one {W H a b p : Int} {xs : List Int} (h : onB W H xs a b [p] = true) : okTwo W H xs a b = true ∧ hasB W H xs p = true := by
  simp only [onB, Bool.and_eq_true, List.all_cons, List.all_nil, and_true] at h
  exact h
def distFromV (W H : Int) (xs : List Int) (a b p : Int) : List Int := if onB W H xs a b [p] = true then distL W H xs a b p else []

set_option maxRecDepth 100000 in
set_option maxHeartbeats 2000000 in
theorem spec_DistancesFrom (W H : Int) (A : Option Addr) (n c : Nat) (xs : List Int) (a b : Int) (p : Int) (w : World) (ha : Rd w A n xs) :
    Calls Try.prog 16 #[brd W H A n c, lpr a b, .int .i64 p] w fun e w' => ∃ A' n' c', e = .returned (.tuple #[.slice A' n' c', .bool (onB W H xs a b [p])]) ∧ OwnI 3 w' w.heap.size A' n' c' (distFromV W H xs a b p) ∧ Below w.heap.size w w' := by
  by_cases hoo : onB W H xs a b [p, p] = true
  · have ho := hoo; rw [onB_same] at ho
    have FO := on_facts (onB_one ho).1
    have HP := Lib.hid (onB_one ho).2
    obtain ⟨N, hN⟩ : ∃ N, N = (W * H).toNat := ⟨_, rfl⟩
    rw [← hN] at FO
    have hp0 := (hasB_iff.1 HP.out).1
    rw [FO.wh] at hp0
    obtain ⟨s, rfl⟩ : ∃ s : Nat, p = (s : Int) := ⟨p.toNat, by omega⟩
    have hs : s < N := by omega
    have HF := Lib.hid FO
    have n64 := FO.n.2
    have HO := Lib.hid ho
    have hL : farL (leapsL W H xs a b) N (s : Int) = distL W H xs a b (s : Int) := by rw [distL, hN]
    have HL := Lib.hid hL
    clear FO hp0 hN hL
    go_enter Try.func16, Try.ntmps16
    go_wp2_with fail
    refine (faAsked_any _ _ _ _ _ _ _ _ _ _ _ ((ha.alloc _).alloc _)).mono ?_
    rw [hoo]
    rintro e wv ⟨rfl, hb⟩
    have hbx0 := below_box hb
    have a0 : wv.cell? ⟨w.heap.size, 0, none⟩ = some (.int .i64 W) := by simpa using newbox hbx0 0
    have a1 : wv.cell? ⟨w.heap.size, 1, none⟩ = some (.int .i64 H) := by simpa using newbox hbx0 1
    have a2 : wv.cell? ⟨w.heap.size, 2, none⟩ = some (.slice A n c) := by simpa using newbox hbx0 2
    have al : w.heap.size < wv.heap.size := by simpa using newbox_lt hbx0
    have l0 : wv.cell? ⟨w.heap.size + 1, 0, none⟩ = some (.int .i64 a) := by simpa using newbox hb 0
    have l1 : wv.cell? ⟨w.heap.size + 1, 1, none⟩ = some (.int .i64 b) := by simpa using newbox hb 1
    have ll : w.heap.size + 1 < wv.heap.size := by simpa using newbox_lt hb
    have B := Lib.hid (below_box hbx0)
    clear hb hbx0
    go_wp2_with fail
    refine (faFrom_any W H A n c xs a b s N _ (ha.keep B.out) HF.out.g HF.out.wh hs).mono ?_
    rintro e wx ⟨g, rfl, own, hb⟩
    rw [HL.out] at own
    have O := Lib.hid (own.lower B.out.size)
    replace B := Lib.hid (below_next B.out hb)
    clear own hb
    go_wp2
    go_ret2
    exact ⟨_, N, N, by rw [HO.out]; rfl, by rw [distFromV, if_pos HO.out]; exact O.out, B.out⟩
  · have hoo' : onB W H xs a b [p, p] = false := by simpa using hoo
    go_enter Try.func16, Try.ntmps16
    go_wp2_with fail
    refine (faAsked_any _ _ _ _ _ _ _ _ _ _ _ ((ha.alloc _).alloc _)).mono ?_
    rw [hoo']
    rintro e wv ⟨rfl, hb⟩
    have hbx0 := below_box hb
    have a0 : wv.cell? ⟨w.heap.size, 0, none⟩ = some (.int .i64 W) := by simpa using newbox hbx0 0
    have a1 : wv.cell? ⟨w.heap.size, 1, none⟩ = some (.int .i64 H) := by simpa using newbox hbx0 1
    have a2 : wv.cell? ⟨w.heap.size, 2, none⟩ = some (.slice A n c) := by simpa using newbox hbx0 2
    have al : w.heap.size < wv.heap.size := by simpa using newbox_lt hbx0
    have l0 : wv.cell? ⟨w.heap.size + 1, 0, none⟩ = some (.int .i64 a) := by simpa using newbox hb 0
    have l1 : wv.cell? ⟨w.heap.size + 1, 1, none⟩ = some (.int .i64 b) := by simpa using newbox hb 1
    have ll : w.heap.size + 1 < wv.heap.size := by simpa using newbox_lt hb
    have B := Lib.hid (below_box hbx0)
    clear hb hbx0
    go_wp2
    go_ret2
    exact ⟨none, 0, 0, by rw [show onB W H xs a b [p] = false by rw [← onB_same]; exact hoo']; rfl, by rw [distFromV, if_neg (by rw [← onB_same, hoo']; simp)]; exact OwnI.none_ _ _ _, B.out⟩

end Go.Proofs.Ytoangjjikmjkgaa
