/-
  Contracts: FirstTwoSteps, in the model and in the program.
-/
import Derived.Test.YtaliknhfcdmohaaOF
namespace Go.Proofs.Ytaliknhfcdmohaa
open Go.RowKit

/-- The first answer of a search from k on, of m places. -/
def seekN {α : Type} (P : Nat → Option α) : Nat → Nat → Option α
  | _, 0 => none
  | k, m + 1 => (P k).or (seekN P (k + 1) m)
theorem seekN_succ {α : Type} (P : Nat → Option α) {k n : Nat} (h : k < n) : seekN P k (n - k) = (P k).or (seekN P (k + 1) (n - (k + 1))) := by
  obtain ⟨m, hm⟩ : ∃ m, n - k = m + 1 := ⟨n - k - 1, by omega⟩
  rw [hm, show n - (k + 1) = m by omega]; rfl
theorem seekN_end {α : Type} (P : Nat → Option α) (k : Nat) : seekN P k 0 = none := rfl
abbrev Tri := Nat × Nat × Nat
def ftT (W H : Int) (ac up : Bool) (a b : Int) (f s i : Nat) : Option Tri := if visA W H ac up (stepN a b f) (stepN a b s) ((i : Int) + 2) then some (f, s, i + 2) else none
def ftS (W H : Int) (ac up : Bool) (a b : Int) (f s : Nat) : Option Tri := seekN (ftT W H ac up a b f s) 0 49
def ftF (W H : Int) (ac up : Bool) (a b : Int) (f : Nat) : Option Tri := seekN (ftS W H ac up a b f) 0 (stepsL a b).length
def ftR (W H : Int) (ac up : Bool) (a b : Int) : Option Tri := seekN (ftF W H ac up a b) 0 (stepsL a b).length
def ftV (W H : Int) (ac up : Bool) (a b : Int) : Option Tri := if twoA W H a b then ftR W H ac up a b else none
def tri0 (r : Option Tri) : Int := match r with | none => 0 | some p => (p.1 : Int)
def tri1 (r : Option Tri) : Int := match r with | none => 0 | some p => (p.2.1 : Int)
def tri2 (r : Option Tri) : Int := match r with | none => 0 | some p => (p.2.2 : Int)
def triV (r : Option Tri) : Value := .tuple #[.int .i64 (tri0 r), .int .i64 (tri1 r), .int .i64 (tri2 r), .bool r.isSome]

set_option maxRecDepth 100000 in
set_option maxHeartbeats 4000000 in
theorem spec_FirstTwoSteps (W H : Int) (ac up : Bool) (a b : Int) (w : World) :
    Calls Try.prog 46 #[ard W H ac up, lpr a b] w fun e w' => e = .returned (.tuple #[.int .i64 (tri0 (ftV W H ac up a b)), .int .i64 (tri1 (ftV W H ac up a b)), .int .i64 (tri2 (ftV W H ac up a b)), .bool (ftV W H ac up a b).isSome]) ∧ Below w.heap.size w w' := by
  obtain ⟨W2, hW2⟩ : ∃ W2, W2 = (w.alloc (.cells #[.int .i64 W, .int .i64 H, .bool ac, .bool up] 25)).alloc (.cells #[.int .i64 a, .int .i64 b] 36) := ⟨_, rfl⟩
  have hsz : W2.heap.size = w.heap.size + 2 := by rw [hW2]; simp
  have a0 : W2.cell? ⟨w.heap.size, 0, none⟩ = some (.int .i64 W) := by rw [hW2]; go_simp
  have a1 : W2.cell? ⟨w.heap.size, 1, none⟩ = some (.int .i64 H) := by rw [hW2]; go_simp
  have a2 : W2.cell? ⟨w.heap.size, 2, none⟩ = some (.bool ac) := by rw [hW2]; go_simp
  have a3 : W2.cell? ⟨w.heap.size, 3, none⟩ = some (.bool up) := by rw [hW2]; go_simp
  have al : w.heap.size < W2.heap.size := by omega
  have l0 : W2.cell? ⟨w.heap.size + 1, 0, none⟩ = some (.int .i64 a) := by rw [hW2]; go_simp
  have l1 : W2.cell? ⟨w.heap.size + 1, 1, none⟩ = some (.int .i64 b) := by rw [hW2]; go_simp
  have ll : w.heap.size + 1 < W2.heap.size := by omega
  have B := Lib.hid (show Below w.heap.size w W2 by rw [hW2]; repeat (first | exact Below.refl _ _ | refine below_new ?_ _))
  cases ht : twoA W H a b
  · have OK := Lib.hid (show ftV W H ac up a b = none by rw [ftV, ht]; rfl)
    go_enter Try.func46, Try.ntmps46
    go_wp2_with fail
    rw [← hW2]
    clear hW2
    refine (arTwo_any _ _ _ _ _ _ _).mono ?_
    rw [ht]
    rintro e wv ⟨rfl, hb⟩
    replace a0 := cell_keep a0 al hb
    replace a1 := cell_keep a1 al hb
    replace a2 := cell_keep a2 al hb
    replace a3 := cell_keep a3 al hb
    replace al := lt_keep al hb
    replace l0 := cell_keep l0 ll hb
    replace l1 := cell_keep l1 ll hb
    replace ll := lt_keep ll hb
    replace B := Lib.hid (below_next B.out hb)
    clear hb
    clear a0 a1 a2 a3 l0 l1 al ll
    go_wp2
    rw [OK.out]
    refine bodyPost_ret (v := .tuple #[.int .i64 0, .int .i64 0, .int .i64 0, .bool false]) ?_ rfl ⟨rfl, B.out⟩
    simp [results, Try.results46, go_sem]
  · have HT := Lib.hid (twoA_iff.1 ht)
    have hA := areaA HT.out.2
    obtain ⟨A1, A2⟩ := hA
    obtain ⟨R, hR⟩ : ∃ R, ftV W H ac up a b = R := ⟨_, rfl⟩
    rw [hR]
    have HR := Lib.hid (show R = seekN (ftF W H ac up a b) 0 (stepsL a b).length by rw [← hR, ftV, ht]; rfl)
    clear hR
    go_enter Try.func46, Try.ntmps46
    go_wp2_with fail
    rw [← hW2]
    clear hW2
    refine (arTwo_any _ _ _ _ _ _ _).mono ?_
    rw [ht]
    rintro e wv ⟨rfl, hb⟩
    replace a0 := cell_keep a0 al hb
    replace a1 := cell_keep a1 al hb
    replace a2 := cell_keep a2 al hb
    replace a3 := cell_keep a3 al hb
    replace al := lt_keep al hb
    replace l0 := cell_keep l0 ll hb
    replace l1 := cell_keep l1 ll hb
    replace ll := lt_keep ll hb
    replace B := Lib.hid (below_next B.out hb)
    clear hb
    go_wp2_with fail
    refine (boSteps_any a b _ HT.out.1).mono ?_
    rintro e ws ⟨AS, n1, c1, top, rfl, hpa, hb⟩
    have SLN := Lib.hid (show (stepsL a b).length = n1 by have := hpa.len; rw [List.length_map] at this; exact this)
    replace a0 := cell_keep a0 al hb
    replace a1 := cell_keep a1 al hb
    replace a2 := cell_keep a2 al hb
    replace a3 := cell_keep a3 al hb
    replace al := lt_keep al hb
    replace l0 := cell_keep l0 ll hb
    replace l1 := cell_keep l1 ll hb
    replace ll := lt_keep ll hb
    replace B := Lib.hid (below_next B.out hb)
    clear hb
    clear hpa
    have n8 : n1 ≤ 8 := by have := stepsL_len HT.out.1; have := SLN.out; omega
    rw [SLN.out] at HR
    have HFF := Lib.hid (fun k => show ftF W H ac up a b k = seekN (ftS W H ac up a b k) 0 n1 by rw [ftF, SLN.out])
    clear hsz
    have hww : IntKind.i64.wrap (W * H) = W * H := IntWalk.i64_in _ (by omega)
    have AL := Lib.hid (⟨a0, a1, a2, a3, l0, l1⟩ : ws.cell? ⟨w.heap.size, 0, none⟩ = some (.int .i64 W) ∧ ws.cell? ⟨w.heap.size, 1, none⟩ = some (.int .i64 H) ∧ ws.cell? ⟨w.heap.size, 2, none⟩ = some (.bool ac) ∧ ws.cell? ⟨w.heap.size, 3, none⟩ = some (.bool up) ∧ ws.cell? ⟨w.heap.size + 1, 0, none⟩ = some (.int .i64 a) ∧ ws.cell? ⟨w.heap.size + 1, 1, none⟩ = some (.int .i64 b))
    clear a0 a1 a2 a3 l0 l1
    go_wp2
    go_loopw [9] (fun u wr => ∃ k : Nat, k ≤ n1 ∧ u = .int .i64 k ∧ R = seekN (ftF W H ac up a b) k (n1 - k) ∧ Below ws.heap.size ws wr) (fun u _ => n1 - (intOf u).toNat)
    case atStart => exact ⟨0, by omega, rfl, HR.out, Below.refl _ _⟩
    case round =>
      obtain ⟨k, hk, rfl, hr1, hbw⟩ := hrel
      have HR1 := Lib.hid hr1; have HB := Lib.hid hbw
      clear hr1
      by_cases hlt : k < n1
      · go_wp2
        go_loopw [10] (fun u wr => ∃ j : Nat, j ≤ n1 ∧ u = .int .i64 j ∧ R = (seekN (ftS W H ac up a b k) j (n1 - j)).or (seekN (ftF W H ac up a b) (k + 1) (n1 - (k + 1))) ∧ Below ws.heap.size ws wr) (fun u _ => n1 - (intOf u).toNat)
        case atStart => exact ⟨0, by omega, rfl, by rw [HR1.out, seekN_succ _ hlt, HFF.out]; rfl, HB.out⟩
        case round =>
          clear HB hbw
          obtain ⟨j, hj, rfl, hr2, hbw⟩ := hrel
          have HR2 := Lib.hid hr2; have HB := Lib.hid hbw
          clear hr2
          by_cases hjt : j < n1
          · go_wp2
            go_loopw [11] (fun u wr => ∃ i : Nat, i ≤ 49 ∧ u = .int .i64 ((i : Int) + 2) ∧ R = ((seekN (ftT W H ac up a b k j) i (49 - i)).or (seekN (ftS W H ac up a b k) (j + 1) (n1 - (j + 1)))).or (seekN (ftF W H ac up a b) (k + 1) (n1 - (k + 1))) ∧ Below ws.heap.size ws wr) (fun u _ => 51 - (intOf u).toNat)
            case atStart => exact ⟨0, by omega, rfl, by rw [HR2.out, seekN_succ _ hjt]; rfl, HB.out⟩
            case round =>
              clear HB hbw
              obtain ⟨i, hi, rfl, hr3, hbw⟩ := hrel
              have HR3 := Lib.hid hr3; have HB := Lib.hid hbw
              have b0 := cell_keep AL.out.1 al hbw; have b1 := cell_keep AL.out.2.1 al hbw; have b2 := cell_keep AL.out.2.2.1 al hbw; have b3 := cell_keep AL.out.2.2.2.1 al hbw; have c0 := cell_keep AL.out.2.2.2.2.1 ll hbw; have c1' := cell_keep AL.out.2.2.2.2.2 ll hbw; have bl := lt_keep al hbw; have cl := lt_keep ll hbw
              clear hbw
              clear hr3
              by_cases hit : i < 49
              · cases hv : visA W H ac up (stepN a b k) (stepN a b j) ((i : Int) + 2) with
                | true =>
                  have HV := Lib.hid (show R = some (k, j, i + 2) by rw [HR3.out, seekN_succ _ hit, ftT, hv, if_pos rfl]; rfl)
                  have HTU := Lib.hid (fun w' => arTurns_any W H ac up a b k j ((i : Int) + 2) w' HT.out.2 HT.out.1 (by have := SLN.out; omega) (by have := SLN.out; omega) (by omega))
                  have HTE := Lib.hid (show turnsL W H ac up ((stepsL a b).getD k (0, 0)) ((stepsL a b).getD j (0, 0)) ((i : Int) + 2) = turnsL W H ac up (stepN a b k) (stepN a b j) ((i : Int) + 2) from rfl)
                  rw [HTE.out] at HTU
                  have hL144 := turnsL_len (t := (i : Int) + 2) (ac := ac) (up := up) (s1 := stepN a b k) (s2 := stepN a b j) HT.out.2
                  obtain ⟨TL, hTL⟩ : ∃ TL, turnsL W H ac up (stepN a b k) (stepN a b j) ((i : Int) + 2) = TL := ⟨_, rfl⟩
                  rw [hTL] at HTU hL144
                  have HVB := Lib.hid (show ((TL.length : Int) == W * H) = true by rw [← hv, visA, hTL]; rfl)
                  clear hTL
                  go_wp2_with fail
                  refine wp_region_held_drew (S := fun w' => w'.cell? ⟨w.heap.size, 0, none⟩ = some (.int .i64 W) ∧ w'.cell? ⟨w.heap.size, 1, none⟩ = some (.int .i64 H) ∧ w'.cell? ⟨w.heap.size, 2, none⟩ = some (.bool ac) ∧ w'.cell? ⟨w.heap.size, 3, none⟩ = some (.bool up) ∧ w'.cell? ⟨w.heap.size + 1, 0, none⟩ = some (.int .i64 a) ∧ w'.cell? ⟨w.heap.size + 1, 1, none⟩ = some (.int .i64 b)) (by kernel_rfl) ?_ (fun hHeld => ?_)
                  · (try dsimp only)
                    exact ⟨b0, b1, b2, b3, c0, c1'⟩
                  refine wpAnyH_take (i := 0) (oi := ⟨_, _, _, _, _, _⟩) (v := ?_) rfl (by kernel_rfl) (by kernel_rfl) (by kernel_rfl) (fun _ _ _ h => h) (Or.inl ⟨by rfl, ?_⟩) (by assumption) ?_
                  rotate_left
                  · intro w hSw
                    (try dsimp only at hSw)
                    go_simp
                    (try with_reducible rfl)
                  (try simp only [Act.put, List.setIfInBounds_toArray, List.set_cons_zero, List.set_cons_succ])
                  refine wpAnyH_take (i := 1) (oi := ⟨_, _, _, _, _, _⟩) (v := ?_) rfl (by kernel_rfl) (by kernel_rfl) (by kernel_rfl) (fun _ _ _ h => h) (Or.inl ⟨by rfl, ?_⟩) (by assumption) ?_
                  rotate_left
                  · intro w hSw
                    (try dsimp only at hSw)
                    go_simp
                    (try with_reducible rfl)
                  (try simp only [Act.put, List.setIfInBounds_toArray, List.set_cons_zero, List.set_cons_succ])
                  refine wpAnyH_take (i := 2) (oi := ⟨_, _, _, _, _, _⟩) (v := ?_) rfl (by kernel_rfl) (by kernel_rfl) (by kernel_rfl) (fun _ _ _ h => h) (Or.inl ⟨by rfl, ?_⟩) (by assumption) ?_
                  rotate_left
                  · intro w hSw
                    (try dsimp only at hSw)
                    go_simp
                    (try with_reducible rfl)
                  (try simp only [Act.put, List.setIfInBounds_toArray, List.set_cons_zero, List.set_cons_succ])
                  refine wpAnyH_take (i := 3) (oi := ⟨_, _, _, _, _, _⟩) (v := ?_) rfl (by kernel_rfl) (by kernel_rfl) (by kernel_rfl) (fun _ _ _ h => h) (Or.inl ⟨by rfl, ?_⟩) (by assumption) ?_
                  rotate_left
                  · intro w hSw
                    (try dsimp only at hSw)
                    go_simp
                    (try with_reducible rfl)
                  (try simp only [Act.put, List.setIfInBounds_toArray, List.set_cons_zero, List.set_cons_succ])
                  refine wpAnyH_take (i := 4) (oi := ⟨_, _, _, _, _, _⟩) (v := ?_) rfl (by kernel_rfl) (by kernel_rfl) (by kernel_rfl) (fun _ _ _ h => h) (Or.inl ⟨by rfl, ?_⟩) (by assumption) ?_
                  rotate_left
                  · intro w hSw
                    (try dsimp only at hSw)
                    go_simp
                    (try with_reducible rfl)
                  (try simp only [Act.put, List.setIfInBounds_toArray, List.set_cons_zero, List.set_cons_succ])
                  refine wpAnyH_take (i := 7) (oi := ⟨_, _, _, _, _, _⟩) (v := ?_) rfl (by kernel_rfl) (by kernel_rfl) (by kernel_rfl) (fun _ _ _ h => h) (Or.inl ⟨by rfl, ?_⟩) (by assumption) ?_
                  rotate_left
                  · intro w hSw
                    (try dsimp only at hSw)
                    go_simp
                    (try with_reducible rfl)
                  (try simp only [Act.put, List.setIfInBounds_toArray, List.set_cons_zero, List.set_cons_succ])
                  refine wpAnyH_take (i := 9) (oi := ⟨_, _, _, _, _, _⟩) (v := ?_) rfl (by kernel_rfl) (by kernel_rfl) (by kernel_rfl) (fun _ _ _ h => h) (Or.inl ⟨by rfl, ?_⟩) (by assumption) ?_
                  rotate_left
                  · intro w hSw
                    (try dsimp only at hSw)
                    go_simp
                    (try with_reducible rfl)
                  (try simp only [Act.put, List.setIfInBounds_toArray, List.set_cons_zero, List.set_cons_succ])
                  refine wpAnyH_take (i := 8) (oi := ⟨_, _, _, _, _, _⟩) (v := ?_) rfl (by kernel_rfl) (by kernel_rfl) (by kernel_rfl) (fun _ _ _ h => h) (Or.inl ⟨by rfl, ?_⟩) (by assumption) ?_
                  rotate_left
                  · intro w hSw
                    (try dsimp only at hSw)
                    go_simp
                    (try with_reducible rfl)
                  (try simp only [Act.put, List.setIfInBounds_toArray, List.set_cons_zero, List.set_cons_succ])
                  refine wpAnyH_take (i := 10) (oi := ⟨_, _, _, _, _, _⟩) (v := ?_) rfl (by kernel_rfl) (by kernel_rfl) (by kernel_rfl) (fun _ _ _ h => h) (Or.inl ⟨by rfl, ?_⟩) (by assumption) ?_
                  rotate_left
                  · intro w hSw
                    (try dsimp only at hSw)
                    go_simp
                    (try with_reducible rfl)
                  (try simp only [Act.put, List.setIfInBounds_toArray, List.set_cons_zero, List.set_cons_succ])
                  refine wpAnyH_take (i := 11) (oi := ⟨_, _, _, _, _, _⟩) (v := ?_) rfl (by kernel_rfl) (by kernel_rfl) (by kernel_rfl) (fun _ _ _ h => h) (Or.inl ⟨by rfl, ?_⟩) (by assumption) ?_
                  rotate_left
                  · intro w hSw
                    (try dsimp only at hSw)
                    go_simp
                    (try with_reducible rfl)
                  (try simp only [Act.put, List.setIfInBounds_toArray, List.set_cons_zero, List.set_cons_succ])
                  refine wpAnyH_ready (rs := [5]) (by kernel_rfl) (by simp) ?_
                  refine AllReadyH.cons (o := ⟨_, _, _, _, _, _⟩) rfl (fun K hK => ?_) AllReadyH.nil
                  go_simp
                  (go_at_call 78; refine (HTU.out _).mono ?_; rintro e wx ⟨A', n', c', rfl, hown, hb⟩; (repeat (first | replace hb := below_undrew hb | replace hb := below_undrewN hb)); have HNL := Lib.hid hown.len; clear hown; replace b0 := cell_keep b0 bl hb; replace b1 := cell_keep b1 bl hb; replace b2 := cell_keep b2 bl hb; replace b3 := cell_keep b3 bl hb; replace c0 := cell_keep c0 cl hb; replace c1' := cell_keep c1' cl hb; replace bl := lt_keep bl hb; replace cl := lt_keep cl hb; replace HB := Lib.hid (HB.out.trans (hb.mono HB.out.size)); clear hb)
                  (try go_wp2_with fail)
                  refine hK.out _ _ ?_ (fun hHeld => ?_)
                  · (try dsimp only)
                    exact ⟨b0, b1, b2, b3, c0, c1'⟩
                  clear hK K
                  (try simp only [Act.put, List.setIfInBounds_toArray, List.set_cons_zero, List.set_cons_succ])
                  refine wpAnyH_take (i := 6) (oi := ⟨_, _, _, _, _, _⟩) (v := ?_) rfl (by kernel_rfl) (by kernel_rfl) (by kernel_rfl) (fun _ _ _ h => h) (Or.inl ⟨by rfl, ?_⟩) (by assumption) ?_
                  rotate_left
                  · intro w hSw
                    (try dsimp only at hSw)
                    go_simp
                    (try with_reducible rfl)
                  (try simp only [Act.put, List.setIfInBounds_toArray, List.set_cons_zero, List.set_cons_succ])
                  refine wpAnyH_take (i := 12) (oi := ⟨_, _, _, _, _, _⟩) (v := ?_) rfl (by kernel_rfl) (by kernel_rfl) (by kernel_rfl) (fun _ _ _ h => h) (Or.inl ⟨by rfl, ?_⟩) (by assumption) ?_
                  rotate_left
                  · intro w hSw
                    (try dsimp only at hSw)
                    go_simp
                    (try with_reducible rfl)
                  (try simp only [Act.put, List.setIfInBounds_toArray, List.set_cons_zero, List.set_cons_succ])
                  refine wpAnyH_done (by kernel_rfl) ?_ _
                  clear hHeld b0 b1 b2 b3 c0 c1'
                  have hnl := HNL.out
                  have hvb := HVB.out
                  rw [hnl] at hvb
                  clear hnl
                  go_wp2
                  rw [HV.out]
                  refine bodyPost_ret (v := .tuple #[.int .i64 (k : Int), .int .i64 (j : Int), .int .i64 ((i : Int) + 2), .bool true]) ?_ rfl ⟨rfl, B.out.trans (HB.out.mono B.out.size)⟩
                  simp [results, Try.results46, go_sem]
                | false =>
                  have HV := Lib.hid (show R = ((seekN (ftT W H ac up a b k j) (i + 1) (49 - (i + 1))).or (seekN (ftS W H ac up a b k) (j + 1) (n1 - (j + 1)))).or (seekN (ftF W H ac up a b) (k + 1) (n1 - (k + 1))) by rw [HR3.out, seekN_succ _ hit, ftT, hv]; rfl)
                  have HTU := Lib.hid (fun w' => arTurns_any W H ac up a b k j ((i : Int) + 2) w' HT.out.2 HT.out.1 (by have := SLN.out; omega) (by have := SLN.out; omega) (by omega))
                  have HTE := Lib.hid (show turnsL W H ac up ((stepsL a b).getD k (0, 0)) ((stepsL a b).getD j (0, 0)) ((i : Int) + 2) = turnsL W H ac up (stepN a b k) (stepN a b j) ((i : Int) + 2) from rfl)
                  rw [HTE.out] at HTU
                  have hL144 := turnsL_len (t := (i : Int) + 2) (ac := ac) (up := up) (s1 := stepN a b k) (s2 := stepN a b j) HT.out.2
                  obtain ⟨TL, hTL⟩ : ∃ TL, turnsL W H ac up (stepN a b k) (stepN a b j) ((i : Int) + 2) = TL := ⟨_, rfl⟩
                  rw [hTL] at HTU hL144
                  have HVB := Lib.hid (show ((TL.length : Int) == W * H) = false by rw [← hv, visA, hTL]; rfl)
                  clear hTL
                  go_wp2_with fail
                  refine wp_region_held_drew (S := fun w' => w'.cell? ⟨w.heap.size, 0, none⟩ = some (.int .i64 W) ∧ w'.cell? ⟨w.heap.size, 1, none⟩ = some (.int .i64 H) ∧ w'.cell? ⟨w.heap.size, 2, none⟩ = some (.bool ac) ∧ w'.cell? ⟨w.heap.size, 3, none⟩ = some (.bool up) ∧ w'.cell? ⟨w.heap.size + 1, 0, none⟩ = some (.int .i64 a) ∧ w'.cell? ⟨w.heap.size + 1, 1, none⟩ = some (.int .i64 b)) (by kernel_rfl) ?_ (fun hHeld => ?_)
                  · (try dsimp only)
                    exact ⟨b0, b1, b2, b3, c0, c1'⟩
                  refine wpAnyH_take (i := 0) (oi := ⟨_, _, _, _, _, _⟩) (v := ?_) rfl (by kernel_rfl) (by kernel_rfl) (by kernel_rfl) (fun _ _ _ h => h) (Or.inl ⟨by rfl, ?_⟩) (by assumption) ?_
                  rotate_left
                  · intro w hSw
                    (try dsimp only at hSw)
                    go_simp
                    (try with_reducible rfl)
                  (try simp only [Act.put, List.setIfInBounds_toArray, List.set_cons_zero, List.set_cons_succ])
                  refine wpAnyH_take (i := 1) (oi := ⟨_, _, _, _, _, _⟩) (v := ?_) rfl (by kernel_rfl) (by kernel_rfl) (by kernel_rfl) (fun _ _ _ h => h) (Or.inl ⟨by rfl, ?_⟩) (by assumption) ?_
                  rotate_left
                  · intro w hSw
                    (try dsimp only at hSw)
                    go_simp
                    (try with_reducible rfl)
                  (try simp only [Act.put, List.setIfInBounds_toArray, List.set_cons_zero, List.set_cons_succ])
                  refine wpAnyH_take (i := 2) (oi := ⟨_, _, _, _, _, _⟩) (v := ?_) rfl (by kernel_rfl) (by kernel_rfl) (by kernel_rfl) (fun _ _ _ h => h) (Or.inl ⟨by rfl, ?_⟩) (by assumption) ?_
                  rotate_left
                  · intro w hSw
                    (try dsimp only at hSw)
                    go_simp
                    (try with_reducible rfl)
                  (try simp only [Act.put, List.setIfInBounds_toArray, List.set_cons_zero, List.set_cons_succ])
                  refine wpAnyH_take (i := 3) (oi := ⟨_, _, _, _, _, _⟩) (v := ?_) rfl (by kernel_rfl) (by kernel_rfl) (by kernel_rfl) (fun _ _ _ h => h) (Or.inl ⟨by rfl, ?_⟩) (by assumption) ?_
                  rotate_left
                  · intro w hSw
                    (try dsimp only at hSw)
                    go_simp
                    (try with_reducible rfl)
                  (try simp only [Act.put, List.setIfInBounds_toArray, List.set_cons_zero, List.set_cons_succ])
                  refine wpAnyH_take (i := 4) (oi := ⟨_, _, _, _, _, _⟩) (v := ?_) rfl (by kernel_rfl) (by kernel_rfl) (by kernel_rfl) (fun _ _ _ h => h) (Or.inl ⟨by rfl, ?_⟩) (by assumption) ?_
                  rotate_left
                  · intro w hSw
                    (try dsimp only at hSw)
                    go_simp
                    (try with_reducible rfl)
                  (try simp only [Act.put, List.setIfInBounds_toArray, List.set_cons_zero, List.set_cons_succ])
                  refine wpAnyH_take (i := 7) (oi := ⟨_, _, _, _, _, _⟩) (v := ?_) rfl (by kernel_rfl) (by kernel_rfl) (by kernel_rfl) (fun _ _ _ h => h) (Or.inl ⟨by rfl, ?_⟩) (by assumption) ?_
                  rotate_left
                  · intro w hSw
                    (try dsimp only at hSw)
                    go_simp
                    (try with_reducible rfl)
                  (try simp only [Act.put, List.setIfInBounds_toArray, List.set_cons_zero, List.set_cons_succ])
                  refine wpAnyH_take (i := 9) (oi := ⟨_, _, _, _, _, _⟩) (v := ?_) rfl (by kernel_rfl) (by kernel_rfl) (by kernel_rfl) (fun _ _ _ h => h) (Or.inl ⟨by rfl, ?_⟩) (by assumption) ?_
                  rotate_left
                  · intro w hSw
                    (try dsimp only at hSw)
                    go_simp
                    (try with_reducible rfl)
                  (try simp only [Act.put, List.setIfInBounds_toArray, List.set_cons_zero, List.set_cons_succ])
                  refine wpAnyH_take (i := 8) (oi := ⟨_, _, _, _, _, _⟩) (v := ?_) rfl (by kernel_rfl) (by kernel_rfl) (by kernel_rfl) (fun _ _ _ h => h) (Or.inl ⟨by rfl, ?_⟩) (by assumption) ?_
                  rotate_left
                  · intro w hSw
                    (try dsimp only at hSw)
                    go_simp
                    (try with_reducible rfl)
                  (try simp only [Act.put, List.setIfInBounds_toArray, List.set_cons_zero, List.set_cons_succ])
                  refine wpAnyH_take (i := 10) (oi := ⟨_, _, _, _, _, _⟩) (v := ?_) rfl (by kernel_rfl) (by kernel_rfl) (by kernel_rfl) (fun _ _ _ h => h) (Or.inl ⟨by rfl, ?_⟩) (by assumption) ?_
                  rotate_left
                  · intro w hSw
                    (try dsimp only at hSw)
                    go_simp
                    (try with_reducible rfl)
                  (try simp only [Act.put, List.setIfInBounds_toArray, List.set_cons_zero, List.set_cons_succ])
                  refine wpAnyH_take (i := 11) (oi := ⟨_, _, _, _, _, _⟩) (v := ?_) rfl (by kernel_rfl) (by kernel_rfl) (by kernel_rfl) (fun _ _ _ h => h) (Or.inl ⟨by rfl, ?_⟩) (by assumption) ?_
                  rotate_left
                  · intro w hSw
                    (try dsimp only at hSw)
                    go_simp
                    (try with_reducible rfl)
                  (try simp only [Act.put, List.setIfInBounds_toArray, List.set_cons_zero, List.set_cons_succ])
                  refine wpAnyH_ready (rs := [5]) (by kernel_rfl) (by simp) ?_
                  refine AllReadyH.cons (o := ⟨_, _, _, _, _, _⟩) rfl (fun K hK => ?_) AllReadyH.nil
                  go_simp
                  (go_at_call 78; refine (HTU.out _).mono ?_; rintro e wx ⟨A', n', c', rfl, hown, hb⟩; (repeat (first | replace hb := below_undrew hb | replace hb := below_undrewN hb)); have HNL := Lib.hid hown.len; clear hown; replace b0 := cell_keep b0 bl hb; replace b1 := cell_keep b1 bl hb; replace b2 := cell_keep b2 bl hb; replace b3 := cell_keep b3 bl hb; replace c0 := cell_keep c0 cl hb; replace c1' := cell_keep c1' cl hb; replace bl := lt_keep bl hb; replace cl := lt_keep cl hb; replace HB := Lib.hid (HB.out.trans (hb.mono HB.out.size)); clear hb)
                  (try go_wp2_with fail)
                  refine hK.out _ _ ?_ (fun hHeld => ?_)
                  · (try dsimp only)
                    exact ⟨b0, b1, b2, b3, c0, c1'⟩
                  clear hK K
                  (try simp only [Act.put, List.setIfInBounds_toArray, List.set_cons_zero, List.set_cons_succ])
                  refine wpAnyH_take (i := 6) (oi := ⟨_, _, _, _, _, _⟩) (v := ?_) rfl (by kernel_rfl) (by kernel_rfl) (by kernel_rfl) (fun _ _ _ h => h) (Or.inl ⟨by rfl, ?_⟩) (by assumption) ?_
                  rotate_left
                  · intro w hSw
                    (try dsimp only at hSw)
                    go_simp
                    (try with_reducible rfl)
                  (try simp only [Act.put, List.setIfInBounds_toArray, List.set_cons_zero, List.set_cons_succ])
                  refine wpAnyH_take (i := 12) (oi := ⟨_, _, _, _, _, _⟩) (v := ?_) rfl (by kernel_rfl) (by kernel_rfl) (by kernel_rfl) (fun _ _ _ h => h) (Or.inl ⟨by rfl, ?_⟩) (by assumption) ?_
                  rotate_left
                  · intro w hSw
                    (try dsimp only at hSw)
                    go_simp
                    (try with_reducible rfl)
                  (try simp only [Act.put, List.setIfInBounds_toArray, List.set_cons_zero, List.set_cons_succ])
                  refine wpAnyH_done (by kernel_rfl) ?_ _
                  clear hHeld b0 b1 b2 b3 c0 c1'
                  have hnl := HNL.out
                  have hvb := HVB.out
                  rw [hnl] at hvb
                  clear hnl
                  go_wp2
                  go_roundw
                  case rel => exact ⟨i + 1, by omega, by go_num, HV.out, HB.out⟩
                  case measure => simp [intOf]; omega
              · have ei : i = 49 := by omega
                subst ei
                have HV := Lib.hid (show R = (seekN (ftS W H ac up a b k) (j + 1) (n1 - (j + 1))).or (seekN (ftF W H ac up a b) (k + 1) (n1 - (k + 1))) by rw [HR3.out]; rfl)
                clear b0 b1 b2 b3 c0 c1'
                go_wp2
                go_roundw
                case rel => exact ⟨j + 1, by omega, by go_num, HV.out, HB.out⟩
                case measure => simp [intOf]; omega
          · have ej : j = n1 := by omega
            subst ej
            have HV := Lib.hid (show R = seekN (ftF W H ac up a b) (k + 1) (j - (k + 1)) by rw [HR2.out, Nat.sub_self]; rfl)
            clear hbw
            go_wp2
            go_roundw
            case rel => exact ⟨k + 1, by omega, by go_num, HV.out, HB.out⟩
            case measure => simp [intOf]; omega
      · have ek : k = n1 := by omega
        subst ek
        have HV := Lib.hid (show R = none by rw [HR1.out, Nat.sub_self]; rfl)
        clear hbw
        go_wp2
        rw [HV.out]
        refine bodyPost_ret (v := .tuple #[.int .i64 0, .int .i64 0, .int .i64 0, .bool false]) ?_ rfl ⟨rfl, B.out.trans (HB.out.mono B.out.size)⟩
        simp [results, Try.results46, go_sem]

end Go.Proofs.Ytaliknhfcdmohaa
