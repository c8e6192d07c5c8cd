/-
  Contracts: the steps of a leaper, in the program.
-/
import Derived.Test.YtnmmgalidkambaaGreatDoorS3
namespace Go.Proofs.YtnmmgalidkambaaGreatDoor
open Go.RowKit

theorem al_size (w : World) (o : Obj) : (w.alloc o).heap.size = w.heap.size + 1 := by simp
theorem infoS : (Tryz.prog.info? 90).map (fun i => (i.zero, i.size, i.bytes)) = some (some (.agg #[.int .i64 0, .int .i64 0]), 2, 16) := by kernel_rfl

set_option maxRecDepth 100000 in
set_option maxHeartbeats 2000000 in
theorem stepsOf_any (a b : Int) (w : World) (hl : leaperB a b = true) :
    Calls Tryz.prog 88 #[lpr a b] w fun e w' => ∃ A' n' c', e = .returned (.slice A' n' c') ∧ OwnP 90 w' w.heap.size A' n' c' (stepsL a b) ∧ Below w.heap.size w w' := by
  obtain ⟨i0, hi, hz0, hz1, hz2⟩ := info_parts infoS
  have HI := Lib.hid hi; have HZ0 := Lib.hid hz0; have HZ1 := Lib.hid hz1; have HZ2 := Lib.hid hz2
  have HL := Lib.hid hl
  have hb := leaperB_iff.1 hl
  obtain ⟨b1, b2, b3, b4⟩ := hb
  clear hi hz0 hz1 hz2 hl
  have j0 : ∀ w', (Instr.index 114 (.agg #[.int .i64 a, .int .i64 b, .int .i64 b, .int .i64 a]) (.int .i64 0)).run Tryz.prog w' = .ok (.agg #[.int .i64 a, .int .i64 b]) w' := fun _ => by kernel_rfl
  have j1 : ∀ w', (Instr.index 114 (.agg #[.int .i64 a, .int .i64 b, .int .i64 b, .int .i64 a]) (.int .i64 1)).run Tryz.prog w' = .ok (.agg #[.int .i64 b, .int .i64 a]) w' := fun _ => by kernel_rfl
  go_enter Tryz.func88, Tryz.ntmps88
  go_wp2
  go_loopw [3, 17] (fun v i wr => ∃ (k n' c' : Nat) (A' : Option Addr), k ≤ 2 ∧ i = .int .i64 k ∧ v = .slice A' n' c' ∧ OwnP 90 wr (w.heap.size + 1) A' n' c' ((eightL a b).take (4 * k)) ∧ Below (w.heap.size + 1) (w.alloc (.cells #[.int .i64 a, .int .i64 b] 32)) wr) (fun _ i _ => 2 - (intOf i).toNat)
  case atStart => exact ⟨0, 0, 0, none, by omega, rfl, rfl, OwnK.none_ _ _ _ _ _, Below.refl _ _⟩
  case round =>
    obtain ⟨k, n', c', A', hk, rfl, rfl, hown, hbw⟩ := hrel
    have hsz := box_size hbw
    have hk3 : k = 0 ∨ k = 1 ∨ k = 2 := by omega
    have hlen := hown.len
    rcases hk3 with rfl | rfl | rfl
    · obtain rfl : n' = 0 := by simpa using hlen.symm
      have HO := Lib.hid hown; have HB := Lib.hid hbw
      clear hown hbw hlen
      go_wp2_with (at_builtin; refine wpList_appKn rfl (.tmp 20) (.tmp 41) 105 rfl i0 (.agg #[.int .i64 0, .int .i64 0]) 16 Tryz.underlying105 HI.out HZ0.out HZ1.out HZ2.out rfl (by decide) (by decide) encP_len encP_one (w.heap.size + 1) A' 0 c' 4 ((eightL a b).take (4 * 0)) [(a, b), (-a, b), (a, -b), (-a, -b)] _ (by rfl) rfl (HO.out.alloc _) (by rw [al_size]; rfl) rfl (by omega) (by have := box_size HB.out; simp; omega) ?_; intro A2 c2 w2 hown2 hb2)
      have HO2 := Lib.hid hown2; have HB2 := Lib.hid ((HB.out.trans (((Below.refl _ _).alloc (by omega) _))).trans hb2)
      clear hown2 hb2
      go_wp2
      go_roundw
      case rel => exact ⟨1, 4, c2, A2, by omega, by go_num, rfl, HO2.out, HB2.out⟩
      case measure => simp [intOf]
    · obtain rfl : n' = 4 := by simpa [eightL] using hlen.symm
      have HO := Lib.hid hown; have HB := Lib.hid hbw
      clear hown hbw hlen
      go_wp2_with (at_builtin; refine wpList_appKn rfl (.tmp 20) (.tmp 41) 105 rfl i0 (.agg #[.int .i64 0, .int .i64 0]) 16 Tryz.underlying105 HI.out HZ0.out HZ1.out HZ2.out rfl (by decide) (by decide) encP_len encP_one (w.heap.size + 1) A' 4 c' 4 ((eightL a b).take (4 * 1)) [(b, a), (-b, a), (b, -a), (-b, -a)] _ (by rfl) rfl (HO.out.alloc _) (by rw [al_size]; rfl) rfl (by omega) (by have := box_size HB.out; simp; omega) ?_; intro A2 c2 w2 hown2 hb2)
      have HO2 := Lib.hid hown2; have HB2 := Lib.hid ((HB.out.trans (((Below.refl _ _).alloc (by omega) _))).trans hb2)
      clear hown2 hb2
      go_wp2
      go_roundw
      case rel => exact ⟨2, 8, c2, A2, by omega, by go_num, rfl, HO2.out, HB2.out⟩
      case measure => simp [intOf]
    · obtain rfl : n' = 8 := by simpa [eightL] using hlen.symm
      obtain ⟨g, rfl, hg1, hg2⟩ := hown.some_ (i := 0) (by omega)
      have HO := Lib.hid hown; have HB := Lib.hid hbw
      clear hown hbw hlen
      go_wp2_with fail
      refine (sortSpot_any (w.heap.size + 1) g c' 8 (eightL a b) wr HO.out (by omega)).mono ?_
      rintro e wv ⟨rfl, hown, hgr⟩
      have hcb : Below (w.heap.size + 1) wr wv := below_of_grown hgr (by omega) (fun g' h => by injection h with h; omega)
      have HB1 := Lib.hid (HB.out.trans hcb)
      have HO1 := Lib.hid hown
      clear hown hgr hcb HO HB
      have hsl : (sortL (eightL a b)).toArray.size = 8 := by simpa using HO1.out.len
      have HSL := Lib.hid hsl
      clear hsl
      go_wp2_with fail
      refine (compact_any (w.heap.size + 1) g c' 8 (sortL (eightL a b)).toArray wv HO1.out HSL.out (by omega) (by omega) (by rcases HO1.out.form with ⟨h, _⟩ | ⟨_, _, _, _, h, _⟩; cases h; exact h)).mono ?_
      rintro e wz ⟨n', rfl, hown, hgr⟩
      have hgl : g < wv.heap.size := by rcases HO1.out.some_ (i := 0) (by omega) with ⟨g', h, _, h2⟩; injection h with h; injection h with h; omega
      have hcb : Below (w.heap.size + 1) wv wz := below_of_grown hgr (by have := HB1.out.size; simp at this; omega) (fun g' h => by injection h with h; omega)
      rw [HSL.out, comp_sort_eight HL.out] at hown
      have HB2 := Lib.hid (HB1.out.trans hcb)
      have HO2 := Lib.hid hown
      clear hown hgr hcb HO1 HB1
      go_wp2
      go_ret
      exact ⟨_, n', c', rfl, HO2.out.lower (by omega), box_below HB2.out⟩

end Go.Proofs.YtnmmgalidkambaaGreatDoor
