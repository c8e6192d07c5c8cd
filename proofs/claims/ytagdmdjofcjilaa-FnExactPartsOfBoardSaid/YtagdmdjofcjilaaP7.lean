/-
  Contracts: rows of slices compared, marked, held.
-/
import Derived.Test.YtagdmdjofcjilaaP6
namespace Go.Proofs.Ytagdmdjofcjilaa
open Go.RowKit

set_option maxRecDepth 100000 in
set_option maxHeartbeats 2000000 in
theorem eqIntSS_any (lo hi lo2 hi2 : Nat) (A1 A2 : Option Addr) (n1 n2 cc1 cc2 : Nat) (ps : List (List Int)) (w : World) (h1 : OwnSS w lo hi A1 n1 cc1 ps) (h2 : OwnSS w lo2 hi2 A2 n2 cc2 ps) (hn : n1 ≤ 64) :
    Calls Try.prog 36 #[.slice A1 n1 cc1, .slice A2 n2 cc2] w fun e w' => e = .returned (.bool true) ∧ Below w.heap.size w w' := by
  obtain rfl : n2 = n1 := by rw [← h1.len, ← h2.len]
  have H1 := Lib.hid h1; have H2 := Lib.hid h2
  clear h1 h2
  go_enter Try.func36, Try.ntmps36
  go_wp2
  go_loopw [5] (fun i wr => ∃ k : Nat, k ≤ n2 ∧ i = .int .i64 k ∧ Below w.heap.size w wr) (fun i _ => n2 - (intOf i).toNat)
  case atStart => exact ⟨0, by omega, rfl, Below.refl _ _⟩
  case round =>
    obtain ⟨k, hk, rfl, hbw⟩ := hrel
    by_cases hlt : k < n2
    · obtain ⟨g1, V1, m1, k1, p, rfl, hl1, c1, hp1, ho1, _, _⟩ := (H1.out.keep hbw).at_ hlt
      obtain ⟨g2, V2, m2, k2, p2, rfl, hl2, c2, hp2, ho2, _, _⟩ := (H2.out.keep hbw).at_ hlt
      obtain rfl : p2 = p := by rw [hp1] at hp2; injection hp2 with hp2; exact hp2.symm
      have R1 := Lib.hid ho1.rd; have R2 := Lib.hid ho2.rd
      have HB := Lib.hid hbw
      have k0 : (0 : Int) ≤ (k : Int) := by omega
      have k9 : (k : Int) < (n2 : Int) := by omega
      clear hp1 hp2 ho1 ho2 hbw
      go_wp2_with fail
      refine wp_region_held_drew (S := fun w' => w'.cell? ⟨g1, k, none⟩ = some (.slice V1 m1 k1) ∧ w'.cell? ⟨g2, k, none⟩ = some (.slice V2 m2 k2)) (by kernel_rfl) ?_ (fun hHeld => ?_)
      · (try dsimp only)
        exact ⟨c1, c2⟩
      refine wpAnyH_take (i := 0) (oi := ⟨_, _, _, _, _, _⟩) (v := ?_) rfl (by kernel_rfl) (by kernel_rfl) (by kernel_rfl) (fun _ _ _ h => h) (Or.inl ⟨by rfl, ?_⟩) (by assumption) ?_
      rotate_left
      · intro w hSw
        (try dsimp only at hSw)
        go_simp
        (try with_reducible rfl)
      (try simp only [Act.put, List.setIfInBounds_toArray, List.set_cons_zero, List.set_cons_succ])
      refine wpAnyH_take (i := 1) (oi := ⟨_, _, _, _, _, _⟩) (v := ?_) rfl (by kernel_rfl) (by kernel_rfl) (by kernel_rfl) (fun _ _ _ h => h) (Or.inl ⟨by rfl, ?_⟩) (by assumption) ?_
      rotate_left
      · intro w hSw
        (try dsimp only at hSw)
        go_simp
        (try with_reducible rfl)
      (try simp only [Act.put, List.setIfInBounds_toArray, List.set_cons_zero, List.set_cons_succ])
      refine wpAnyH_take (i := 2) (oi := ⟨_, _, _, _, _, _⟩) (v := ?_) rfl (by kernel_rfl) (by kernel_rfl) (by kernel_rfl) (fun _ _ _ h => h) (Or.inl ⟨by rfl, ?_⟩) (by assumption) ?_
      rotate_left
      · intro w hSw
        (try dsimp only at hSw)
        go_simp
        (try with_reducible rfl)
      (try simp only [Act.put, List.setIfInBounds_toArray, List.set_cons_zero, List.set_cons_succ])
      refine wpAnyH_take (i := 3) (oi := ⟨_, _, _, _, _, _⟩) (v := ?_) rfl (by kernel_rfl) (by kernel_rfl) (by kernel_rfl) (fun _ _ _ h => h) (Or.inl ⟨by rfl, ?_⟩) (by assumption) ?_
      rotate_left
      · intro w hSw
        (try dsimp only at hSw)
        go_simp
        (try with_reducible rfl)
      (try simp only [Act.put, List.setIfInBounds_toArray, List.set_cons_zero, List.set_cons_succ])
      refine wpAnyH_take (i := 4) (oi := ⟨_, _, _, _, _, _⟩) (v := ?_) rfl (by kernel_rfl) (by kernel_rfl) (by kernel_rfl) (fun _ _ _ h => h) (Or.inl ⟨by rfl, ?_⟩) (by assumption) ?_
      rotate_left
      · intro w hSw
        (try dsimp only at hSw)
        go_simp
        (try with_reducible rfl)
      (try simp only [Act.put, List.setIfInBounds_toArray, List.set_cons_zero, List.set_cons_succ])
      refine wpAnyH_take (i := 5) (oi := ⟨_, _, _, _, _, _⟩) (v := ?_) rfl (by kernel_rfl) (by kernel_rfl) (by kernel_rfl) (fun _ _ _ h => h) (Or.inl ⟨by rfl, ?_⟩) (by assumption) ?_
      rotate_left
      · intro w hSw
        (try dsimp only at hSw)
        go_simp
        (try with_reducible rfl)
      (try simp only [Act.put, List.setIfInBounds_toArray, List.set_cons_zero, List.set_cons_succ])
      refine wpAnyH_take (i := 6) (oi := ⟨_, _, _, _, _, _⟩) (v := ?_) rfl (by kernel_rfl) (by kernel_rfl) (by kernel_rfl) (fun _ _ _ h => h) (Or.inl ⟨by rfl, ?_⟩) (by assumption) ?_
      rotate_left
      · intro w hSw
        (try dsimp only at hSw)
        go_simp
        (try with_reducible rfl)
      (try simp only [Act.put, List.setIfInBounds_toArray, List.set_cons_zero, List.set_cons_succ])
      refine wpAnyH_take (i := 7) (oi := ⟨_, _, _, _, _, _⟩) (v := ?_) rfl (by kernel_rfl) (by kernel_rfl) (by kernel_rfl) (fun _ _ _ h => h) (Or.inl ⟨by rfl, ?_⟩) (by assumption) ?_
      rotate_left
      · intro w hSw
        (try dsimp only at hSw)
        go_simp
        (try with_reducible rfl)
      (try simp only [Act.put, List.setIfInBounds_toArray, List.set_cons_zero, List.set_cons_succ])
      refine wpAnyH_ready (rs := [8]) (by kernel_rfl) (by simp) ?_
      refine AllReadyH.cons (o := ⟨_, _, _, _, _, _⟩) rfl (fun K hK => ?_) AllReadyH.nil
      go_simp
      (go_at_call 25; refine (eqIntS_any V1 V2 m1 m2 k1 k2 p2 p2 _ ?_ ?_).mono ?_; (exact R1.out); (exact R2.out); simp only [decide_true]; rintro e wv ⟨rfl, hb⟩; (repeat (first | replace hb := below_undrew hb | replace hb := below_undrewN hb)); replace c1 := cell_keep c1 hl1 hb; replace c2 := cell_keep c2 hl2 hb; replace HB := Lib.hid (below_next HB.out hb); clear hb)
      (try go_wp2_with fail)
      refine hK.out _ _ ?_ (fun hHeld => ?_)
      · (try dsimp only)
        exact ⟨c1, c2⟩
      clear hK K
      (try simp only [Act.put, List.setIfInBounds_toArray, List.set_cons_zero, List.set_cons_succ])
      refine wpAnyH_take (i := 9) (oi := ⟨_, _, _, _, _, _⟩) (v := ?_) rfl (by kernel_rfl) (by kernel_rfl) (by kernel_rfl) (fun _ _ _ h => h) (Or.inl ⟨by rfl, ?_⟩) (by assumption) ?_
      rotate_left
      · intro w hSw
        (try dsimp only at hSw)
        go_simp
        (try with_reducible rfl)
      (try simp only [Act.put, List.setIfInBounds_toArray, List.set_cons_zero, List.set_cons_succ])
      refine wpAnyH_done (by kernel_rfl) ?_ _
      obtain ⟨wd, hwd⟩ : ∃ wd, wd = wv.drew := ⟨_, rfl⟩
      have HB2 := Lib.hid (show Below w.heap.size w wd by rw [hwd]; exact ⟨HB.out.os, HB.out.tape, HB.out.output, HB.out.size, HB.out.block⟩)
      (try rw [← hwd])
      clear hwd c1 c2
      go_wp2
      go_roundw
      case rel => first | exact ⟨k + 1, by omega, by go_num, HB2.out⟩ | exact ⟨k + 1, by omega, by go_num, HB.out⟩
      case measure => simp [intOf]; omega
    · obtain rfl : k = n2 := by omega
      go_wp2
      go_ret
      exact ⟨rfl, hbw⟩

/-- The lists behind i marks, and the next mark. -/
def markTo (ps : List (List Int)) (k0 : Int) : Nat → List (List Int) × Int
  | 0 => (ps, k0)
  | i + 1 => ((markTo ps k0 i).1.set i (marks (markTo ps k0 i).2 (ps.getD i []).length), (markTo ps k0 i).2 + (ps.getD i []).length)
theorem markTo_len (ps : List (List Int)) (k0 : Int) : ∀ i, (markTo ps k0 i).1.length = ps.length
  | 0 => rfl
  | i + 1 => by rw [markTo, List.length_set]; exact markTo_len ps k0 i
theorem markTo_later (ps : List (List Int)) (k0 : Int) : ∀ i j, i ≤ j → (markTo ps k0 i).1[j]? = ps[j]?
  | 0, _, _ => rfl
  | i + 1, j, h => by rw [markTo]; simp only; rw [List.getElem?_set_ne (by omega)]; exact markTo_later ps k0 i j (by omega)
theorem markTo_done (ps : List (List Int)) (k0 : Int) : ∀ i j, j < i → j < ps.length → (markTo ps k0 i).1[j]? = some (marks (markTo ps k0 j).2 (ps.getD j []).length)
  | 0, _, h, _ => absurd h (by omega)
  | i + 1, j, h, hj => by
    rw [markTo]
    simp only
    by_cases e : i = j
    · subst e; rw [List.getElem?_set, if_pos rfl, if_pos (by rw [markTo_len]; exact hj)]
    · rw [List.getElem?_set_ne e]; exact markTo_done ps k0 i j (by omega) hj
theorem markTo_bd {ps : List (List Int)} {k0 : Int} (hs : ∀ p ∈ ps, p.length ≤ 64) : ∀ i : Nat, k0 ≤ (markTo ps k0 i).2 ∧ (markTo ps k0 i).2 ≤ k0 + 64 * (i : Int)
  | 0 => by simp [markTo]
  | i + 1 => by
    have ih := markTo_bd (k0 := k0) hs i
    rw [markTo]
    simp only
    have hl : (ps.getD i []).length ≤ 64 := by
      rw [List.getD_eq_getElem?_getD]
      cases h : ps[i]? with
      | none => simp
      | some p => exact hs p (List.mem_of_getElem? h)
    push_cast
    omega
theorem getD_of {ps : List (List Int)} {i : Nat} {p : List Int} (h : ps[i]? = some p) : ps.getD i [] = p := by rw [List.getD_eq_getElem?_getD, h]; rfl

set_option maxRecDepth 100000 in
set_option maxHeartbeats 2000000 in
theorem markIntSS_any (lo hi : Nat) (A : Option Addr) (n c : Nat) (ps : List (List Int)) (k0 : Int) (w : World) (h : OwnSS w lo hi A n c ps) (hs : ∀ p ∈ ps, p.length ≤ 64) (hn : n ≤ 64) (h0 : 0 ≤ k0 ∧ k0 ≤ 1000) :
    Calls Try.prog 37 #[.slice A n c, .int .i64 k0] w fun e w' => e = .returned (.int .i64 (markTo ps k0 n).2) ∧ OwnSS w' lo hi A n c (markTo ps k0 n).1 ∧ Within lo hi w w' := by
  have H := Lib.hid h; have HS := Lib.hid hs; have HLEN := Lib.hid h.len
  clear h hs
  go_enter Try.func37, Try.ntmps37
  go_wp2
  go_loopw [1, 5] (fun v i wr => ∃ k : Nat, k ≤ n ∧ i = .int .i64 k ∧ v = .int .i64 (markTo ps k0 k).2 ∧ OwnSS wr lo hi A n c (markTo ps k0 k).1 ∧ Within lo hi w wr) (fun _ i _ => n - (intOf i).toNat)
  case atStart => exact ⟨0, by omega, rfl, rfl, H.out, within_refl _ _ _⟩
  case round =>
    obtain ⟨k, hk, rfl, rfl, how, hwi⟩ := hrel
    have hbd := markTo_bd (k0 := k0) HS.out k
    have HW := Lib.hid hwi
    by_cases hlt : k < n
    · obtain ⟨g1, V, m, kk, p, rfl, hl1, c1, hp1, ho1, hv1, hup⟩ := how.at_ hlt
      have hpk : ps[k]? = some p := by rw [markTo_later ps k0 k k (Nat.le_refl _)] at hp1; exact hp1
      have hm : p.length = m := ho1.len
      have hm64 : m ≤ 64 := by rw [← hm]; exact HS.out p (List.mem_of_getElem? hpk)
      have e1 : markTo ps k0 (k + 1) = ((markTo ps k0 k).1.set k (marks (markTo ps k0 k).2 m), (markTo ps k0 k).2 + m) := by rw [markTo, getD_of hpk, hm]
      have E1 := Lib.hid e1; have HU := Lib.hid hup; have HV := Lib.hid hv1; have HO := Lib.hid ho1
      obtain ⟨mk, hmk⟩ : ∃ mk, mk = (markTo ps k0 k).2 := ⟨_, rfl⟩
      have HMK := Lib.hid hmk
      rw [← hmk] at hbd ⊢
      have k00 : (0 : Int) ≤ (k : Int) := by omega
      have k99 : (k : Int) < (n : Int) := by omega
      clear how hp1 ho1 hv1 hup hpk hm e1 hmk hwi
      go_wp2_with fail
      refine (markIntS_any V m kk lo mk p _ HO.out (by omega) (by omega)).mono ?_
      rintro e wv ⟨rfl, HO', hg⟩
      have HO2 := Lib.hid (HU.out _ _ HO' hg)
      have HW2 := Lib.hid (within_grown HW.out hg HV.out)
      clear HO' hg c1
      go_wp2
      go_roundw
      case rel => exact ⟨k + 1, by omega, by go_num, by rw [E1.out, HMK.out], by rw [E1.out, ← HMK.out]; exact HO2.out, HW2.out⟩
      case measure => simp [intOf]; omega
    · obtain rfl : k = n := by omega
      go_wp2
      go_ret
      exact ⟨rfl, how, HW.out⟩

set_option maxRecDepth 100000 in
set_option maxHeartbeats 2000000 in
theorem heldIntSS_any (lo hi : Nat) (A : Option Addr) (n c : Nat) (ps : List (List Int)) (k0 : Int) (w : World) (h : OwnSS w lo hi A n c (markTo ps k0 n).1) (hs : ∀ p ∈ ps, p.length ≤ 64) (hn : n ≤ 64) (hpn : ps.length = n) (h0 : 0 ≤ k0 ∧ k0 ≤ 1000) :
    Calls Try.prog 38 #[.slice A n c, .int .i64 k0] w fun e w' => e = .returned (.int .i64 (markTo ps k0 n).2) ∧ Below w.heap.size w w' := by
  have H := Lib.hid h; have HS := Lib.hid hs; have HPN := Lib.hid hpn
  clear h hs hpn
  go_enter Try.func38, Try.ntmps38
  go_wp2
  go_loopw [1, 5] (fun v i wr => ∃ k : Nat, k ≤ n ∧ i = .int .i64 k ∧ v = .int .i64 (markTo ps k0 k).2 ∧ Below w.heap.size w wr) (fun _ i _ => n - (intOf i).toNat)
  case atStart => exact ⟨0, by omega, rfl, rfl, Below.refl _ _⟩
  case round =>
    obtain ⟨k, hk, rfl, rfl, hbw⟩ := hrel
    have hbd := markTo_bd (k0 := k0) HS.out k
    have HB := Lib.hid hbw
    by_cases hlt : k < n
    · obtain ⟨g1, V, m, kk, p, rfl, hl1, c1, hp1, ho1, _, _⟩ := (H.out.keep hbw).at_ hlt
      rw [markTo_done ps k0 n k hlt (by rw [HPN.out]; exact hlt)] at hp1
      injection hp1 with hp1
      have hm : (ps.getD k []).length = m := by rw [← ho1.len, ← hp1, marks_length]
      rw [hm] at hp1
      rw [← hp1] at ho1
      have hm64 : m ≤ 64 := by
        rw [← hm, List.getD_eq_getElem?_getD]
        cases h9 : ps[k]? with
        | none => simp
        | some p => exact HS.out p (List.mem_of_getElem? h9)
      have e1 : (markTo ps k0 (k + 1)).2 = (markTo ps k0 k).2 + m := by rw [markTo]; simp only; rw [hm]
      have E1 := Lib.hid e1; have HO := Lib.hid ho1.rd
      obtain ⟨mk, hmk⟩ : ∃ mk, mk = (markTo ps k0 k).2 := ⟨_, rfl⟩
      have HMK := Lib.hid hmk
      rw [← hmk] at hbd HO ⊢
      have k00 : (0 : Int) ≤ (k : Int) := by omega
      have k99 : (k : Int) < (n : Int) := by omega
      clear hp1 ho1 hm e1 hmk hbw
      go_wp2_with fail
      refine (heldIntS_any V m kk mk _ HO.out (by omega) (by omega)).mono ?_
      rintro e wv ⟨rfl, hb⟩
      replace HB := Lib.hid (below_next HB.out hb)
      have hnn : decide (mk + (m : Int) < 0) = false := by simp; omega
      clear hb c1
      go_wp2
      go_roundw
      case rel => exact ⟨k + 1, by omega, by go_num, by rw [E1.out, HMK.out], HB.out⟩
      case measure => simp [intOf]; omega
    · obtain rfl : k = n := by omega
      go_wp2
      go_ret
      exact ⟨rfl, HB.out⟩

end Go.Proofs.Ytagdmdjofcjilaa
