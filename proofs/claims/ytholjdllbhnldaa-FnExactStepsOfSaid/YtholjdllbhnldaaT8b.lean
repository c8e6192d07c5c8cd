/-
  Contracts: CellsWithin, the program.
-/
import Derived.Test.YtholjdllbhnldaaT8a
namespace Go.Proofs.Ytholjdllbhnldaa
open Go.RowKit

theorem far_bd {W H a b p : Int} {xs : List Int} {N : Nat} (h : OnFacts W H xs a b N) (hp : hasB W H xs p = true) : ∀ x ∈ farL (leapsL W H xs a b) 64 p, -1 ≤ x ∧ x ≤ 64 := fun x hx => by
  have hr := (hasB_iff.1 hp).1
  have := h.wh; have := h.n
  obtain ⟨i, hi, rfl⟩ := List.getElem_of_mem hx
  have hb := (bfs_ok (adj := leapsL W H xs a b) (N := 64) (start := p) (by omega) (fun c _ y hy => by have := leaps_in h.wh hy; omega) 64).lo i _ (List.getElem?_eq_getElem hi)
  omega

set_option maxRecDepth 100000 in
set_option maxHeartbeats 2000000 in
theorem cellsWithin_any (L : List Int) (h64 : L.length = 64) (hb0 : ∀ x ∈ L, -1 ≤ x ∧ x ≤ 64) (q : Int) (w : World) :
    Calls Try.prog 65 #[.agg (L.map (Value.int .i64)).toArray, .int .i64 q] w fun e w' => ∃ A' n' c', e = .returned (.slice A' n' c') ∧ OwnI 3 w' w.heap.size A' n' c' (selTo (nearB L q) 64) ∧ Below w.heap.size w w' := by
  obtain ⟨i0, hi, hz0, hz1, hz2⟩ := info_parts infoI
  have HI := Lib.hid hi; have HZ0 := Lib.hid hz0; have HZ1 := Lib.hid hz1; have HZ2 := Lib.hid hz2
  clear hi hz0 hz1 hz2
  have HL := Lib.hid h64; have HB0 := Lib.hid hb0
  obtain ⟨W1, hW1⟩ : ∃ W1, W1 = w.alloc (.cells (L.map (Value.int .i64)).toArray 64) := ⟨_, rfl⟩
  have hrg := range_laid w L 64
  have HIN := Lib.hid (show (Try.prog.info? 64).map (·.size) = some (L.map (Value.int .i64)).length from infoD.trans (by rw [List.length_map, h64]))
  have hsz : W1.heap.size = w.heap.size + 1 := by rw [hW1]; simp
  have B := Lib.hid (show Below w.heap.size w W1 by rw [hW1]; exact below_new (Below.refl _ _) _)
  have hix := fun (k : Nat) (hk : k < 64) (x : Int) (hx : L[k]? = some x) (w' : World) => run_far L h64 k hk x hx w'
  obtain ⟨V, hV⟩ : ∃ V, V = L.map (Value.int .i64) := ⟨_, rfl⟩
  rw [← hV] at hW1 hrg HIN hix ⊢
  have HRG := Lib.hid hrg
  have HIX := Lib.hid hix
  clear hrg h64 hb0 hix hV
  go_enter Try.func65, Try.ntmps65
  go_wp2_with (refine wpList_load_mid rfl 64 (.tmp 2) rfl w.heap.size 0 rfl V _ HRG.out Try.underlying64 rfl HIN.out ?_)
  rw [← hW1]
  clear hW1 HRG
  go_loopw [5, 9] (fun v i wr => ∃ (k n' c' : Nat) (A' : Option Addr), k ≤ 64 ∧ i = .int .i64 k ∧ v = .slice A' n' c' ∧ OwnI 3 wr W1.heap.size A' n' c' (selTo (nearB L q) k) ∧ Below W1.heap.size W1 wr) (fun _ i _ => 64 - (intOf i).toNat)
  case atStart => exact ⟨0, 0, 0, none, by omega, rfl, rfl, OwnI.none_ _ _ _, Below.refl _ _⟩
  case round =>
    obtain ⟨k, n', c', A', hk, rfl, rfl, hown, hbw⟩ := hrel
    have hbsz := hbw.size
    by_cases hlt : k < 64
    · obtain ⟨x, hx⟩ : ∃ x, L[k]? = some x := ⟨_, List.getElem?_eq_getElem (show k < L.length by have := HL.out; omega)⟩
      have hxb := HB0.out x (List.mem_of_getElem? hx)
      have hix := HIX.out k hlt x hx
      have hn' : n' ≤ 64 := by have := selTo_len (nearB L q) k; have := hown.len; omega
      have hnb : nearB L q k = inB x 0 q := near_in hx
      have HX := Lib.hid hx; have HO := Lib.hid hown; have HB := Lib.hid hbw; have HNB := Lib.hid hnb
      clear hx hown hbw hnb
      by_cases hm : x = -1
      · subst hm
        go_wp2
        go_roundw
        case rel => exact ⟨k + 1, n', c', A', by omega, by go_num, rfl, by rw [selTo_no (by rw [HNB.out]; rfl)]; exact HO.out, HB.out⟩
        case measure => simp [intOf]; omega
      · have hm' : (x != -1) = true := by simpa using hm
        by_cases hq : x ≤ q
        · go_wp2_with (at_builtin; refine wpList_app1 rfl (.tmp 20) (.tmp 22) 32 3 rfl i0 Try.underlying32 HI.out HZ0.out HZ1.out HZ2.out W1.heap.size A' n' c' (selTo (nearB L q) k) (k : Int) rfl HO.out rfl (by omega) hbsz ?_; intro A2 c2 w2 hown2 hb2')
          have HO2 := Lib.hid hown2; have HB2 := Lib.hid (HB.out.trans hb2')
          clear hown2 hb2'
          go_wp2
          go_roundw
          case rel => exact ⟨k + 1, n' + 1, c2, A2, by omega, by go_num, rfl, by rw [selTo_yes (by rw [HNB.out, inB]; simp; omega)]; exact HO2.out, HB2.out⟩
          case measure => simp [intOf]; omega
        · go_wp2
          go_roundw
          case rel => exact ⟨k + 1, n', c', A', by omega, by go_num, rfl, by rw [selTo_no (by rw [HNB.out, inB]; simp; omega)]; exact HO.out, HB.out⟩
          case measure => simp [intOf]; omega
    · obtain rfl : k = 64 := by omega
      have HO := Lib.hid (hown.lower (show w.heap.size ≤ W1.heap.size by omega)); have HB := Lib.hid (below_next B.out hbw)
      clear hown hbw
      go_wp2
      go_ret
      exact ⟨_, _, _, rfl, HO.out, HB.out⟩

end Go.Proofs.Ytholjdllbhnldaa
