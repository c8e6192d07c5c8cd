/-
  Contracts: CloseByTurns.
-/
import Derived.Test.YtphjkmikleldcaaZ4
import Derived.Test.YtphjkmikleldcaaB4
import Derived.Deep.RegionHeld3
namespace Go.Proofs.Ytphjkmikleldcaa
open Go.RowKit

def closeR (W a b : Int) : Nat → List Int → Option (List Int)
  | 0, ps => if endB W a b ps then some ps else none
  | t + 1, ps => (tailsL W a b ps).findSome? fun k => closeR W a b t (turnL ps k.toNat)
theorem tails_in {W a b x : Int} {ps : List Int} (h : x ∈ tailsL W a b ps) : ∃ j : Nat, x = (j : Int) ∧ 1 ≤ j ∧ j + 1 < ps.length := by
  rw [tailsL, tailsTo, List.mem_map] at h
  obtain ⟨j, hj, rfl⟩ := h
  rw [List.mem_filter, List.mem_range'_1] at hj
  exact ⟨j, rfl, hj.1.1, by omega⟩
theorem closeR_len {W a b : Int} : ∀ (t : Nat) (ps qs : List Int), closeR W a b t ps = some qs → qs.length = ps.length
  | 0, ps, qs, h => by
    rw [closeR] at h
    split at h
    · injection h with h; rw [h]
    · cases h
  | t + 1, ps, qs, h => by
    rw [closeR] at h
    obtain ⟨k, -, hk⟩ := List.exists_of_findSome?_eq_some h
    rw [closeR_len t _ _ hk, turnL_len]
def closeS (W a b : Int) (ps : List Int) (n : Nat) : Option (List Int) := (List.range n).findSome? fun t => closeR W a b t ps
theorem closeS_none {W a b : Int} {ps : List Int} {n : Nat} (h : ∀ s, s < n → closeR W a b s ps = none) : closeS W a b ps n = none := by
  rw [closeS, List.findSome?_eq_none_iff]
  intro s hs
  exact h s (List.mem_range.1 hs)
theorem closeS_some {W a b : Int} {ps qs : List Int} {n t : Nat} (h : ∀ s, s < t → closeR W a b s ps = none) (ht : t < n) (hq : closeR W a b t ps = some qs) : closeS W a b ps n = some qs := by
  obtain ⟨r, rfl⟩ : ∃ r, n = t + 1 + r := ⟨n - (t + 1), by omega⟩
  rw [closeS, List.range_add, List.findSome?_append, List.range_succ, List.findSome?_append]
  have h1 : (List.range t).findSome? (fun t => closeR W a b t ps) = none := closeS_none h
  rw [h1]
  simp [hq]
def okClose (W H : Int) (xs : List Int) (a b : Int) (ps : List Int) (q : Int) : Bool := okWk W H xs a b ps && inB q 0 3 && (closeS W a b ps (q.toNat + 1)).isSome
def closeV (W H : Int) (xs : List Int) (a b : Int) (ps : List Int) (q : Int) : List Int := if okClose W H xs a b ps q then (closeS W a b ps (q.toNat + 1)).getD [] else []
theorem len_CloseByTurns (W H : Int) (xs : List Int) (a b : Int) (ps : List Int) (q : Int) : (closeV W H xs a b ps q).length ≤ 1000000 := by
  unfold closeV; split
  · rename_i h
    simp only [okClose, Bool.and_eq_true] at h
    have hl := ok_len h.1.1
    cases hc : closeS W a b ps (q.toNat + 1) with
    | none => simp
    | some qs =>
      rw [closeS] at hc
      obtain ⟨t, -, ht⟩ := List.exists_of_findSome?_eq_some hc
      have := closeR_len t ps qs ht
      simp only [Option.getD_some]; omega
  · simp

set_option maxRecDepth 100000 in
set_option maxHeartbeats 4000000 in
theorem blClose_any (W H : Int) (A : Option Addr) (n c : Nat) (a b : Int) : ∀ (t : Nat) (A2 : Option Addr) (m c2 : Nat) (ps : List Int) (w : World), Rd w A2 m ps → m ≤ c2 → 1 ≤ W ∧ W ≤ 8 → (∀ x ∈ ps, 0 ≤ x ∧ x < 64) → 1 ≤ m ∧ m ≤ 64 → t ≤ 3 →
    Calls Try.prog 62 #[brd W H A n c, lpr a b, .slice A2 m c2, .int .i64 (t : Int)] w fun e w' => ∃ A' m' c', e = .returned (.tuple #[.slice A' m' c', .bool (closeR W a b t ps).isSome]) ∧ (∀ qs, closeR W a b t ps = some qs → Rd w' A' m' qs ∧ m' ≤ 64) ∧ Below w.heap.size w w' := by
  intro t
  induction t with
  | zero =>
    intro A2 m c2 ps w hp hcap hW h64 hm ht
    obtain ⟨W2, hW2⟩ : ∃ W2, W2 = (w.alloc (.cells #[.int .i64 W, .int .i64 H, .slice A n c] 30)).alloc (.cells #[.int .i64 a, .int .i64 b] 32) := ⟨_, rfl⟩
    have a0 : W2.cell? ⟨w.heap.size, 0, none⟩ = some (.int .i64 W) := by rw [hW2]; go_simp
    have a1 : W2.cell? ⟨w.heap.size, 1, none⟩ = some (.int .i64 H) := by rw [hW2]; go_simp
    have a2 : W2.cell? ⟨w.heap.size, 2, none⟩ = some (.slice A n c) := by rw [hW2]; go_simp
    have l0 : W2.cell? ⟨w.heap.size + 1, 0, none⟩ = some (.int .i64 a) := by rw [hW2]; go_simp
    have l1 : W2.cell? ⟨w.heap.size + 1, 1, none⟩ = some (.int .i64 b) := by rw [hW2]; go_simp
    have al : w.heap.size < W2.heap.size := by rw [hW2]; simp; omega
    have ll : w.heap.size + 1 < W2.heap.size := by rw [hW2]; simp
    have B := Lib.hid (show Below w.heap.size w W2 by rw [hW2]; exact ((Below.refl _ _).alloc (Nat.le_refl _) _).alloc (by simp) _)
    have RP := Lib.hid (hp.keep B.out)
    have HPL := Lib.hid hp.1
    have HW := Lib.hid hW; have H64 := Lib.hid h64
    clear hp hW h64
    have hm64 := hm.2
    clear hm ht
    go_enter Try.func62, Try.ntmps62
    go_wp2_with fail
    rw [← hW2]
    clear hW2
    refine (blClosed_any W H A n c a b A2 m c2 ps _ RP.out HW.out H64.out).mono ?_
    rintro e wv ⟨rfl, hb⟩
    replace RP := Lib.hid (RP.out.keep hb)
    replace B := Lib.hid (below_next B.out hb)
    clear hb a0 a1 a2 l0 l1 al ll
    go_wp2
    go_ret2
    cases he : endB W a b ps with
    | true => exact ⟨_, _, _, by rw [closeR, he]; rfl, fun qs h => by (rw [closeR, he] at h; injection h with h; subst h; exact ⟨RP.out, hm64⟩), B.out⟩
    | false => exact ⟨_, _, _, by rw [closeR, he]; rfl, fun qs h => by (rw [closeR, he] at h; cases h), B.out⟩
  | succ t ih =>
    intro A2 m c2 ps w hp hcap hW h64 hm ht
    obtain ⟨W2, hW2⟩ : ∃ W2, W2 = (w.alloc (.cells #[.int .i64 W, .int .i64 H, .slice A n c] 30)).alloc (.cells #[.int .i64 a, .int .i64 b] 32) := ⟨_, rfl⟩
    have a0 : W2.cell? ⟨w.heap.size, 0, none⟩ = some (.int .i64 W) := by rw [hW2]; go_simp
    have a1 : W2.cell? ⟨w.heap.size, 1, none⟩ = some (.int .i64 H) := by rw [hW2]; go_simp
    have a2 : W2.cell? ⟨w.heap.size, 2, none⟩ = some (.slice A n c) := by rw [hW2]; go_simp
    have l0 : W2.cell? ⟨w.heap.size + 1, 0, none⟩ = some (.int .i64 a) := by rw [hW2]; go_simp
    have l1 : W2.cell? ⟨w.heap.size + 1, 1, none⟩ = some (.int .i64 b) := by rw [hW2]; go_simp
    have al : w.heap.size < W2.heap.size := by rw [hW2]; simp; omega
    have ll : w.heap.size + 1 < W2.heap.size := by rw [hW2]; simp
    have B := Lib.hid (show Below w.heap.size w W2 by rw [hW2]; exact ((Below.refl _ _).alloc (Nat.le_refl _) _).alloc (by simp) _)
    have RP := Lib.hid (hp.keep B.out)
    have HPL := Lib.hid hp.1
    have HW := Lib.hid hW; have H64 := Lib.hid h64
    clear hp hW h64
    have HML := Lib.hid hm
    have HT3 := Lib.hid (show t ≤ 3 by omega)
    have HCAP := Lib.hid hcap
    obtain ⟨hm1, hm2⟩ := hm
    have hne : ¬ ((t : Int) + 1 = 0) := by omega
    have hne2 : ¬ (((t + 1 : Nat) : Int) = 0) := by omega
    have hwt : IntKind.i64.wrap (((t + 1 : Nat) : Int) - 1) = (t : Int) := by rw [show (((t + 1 : Nat) : Int) - 1) = (t : Int) by omega]; exact IntWalk.i64_in _ (by omega)
    have hwt2 : IntKind.i64.wrap ((t : Int) + 1 - 1) = (t : Int) := by rw [show ((t : Int) + 1 - 1) = (t : Int) by omega]; exact IntWalk.i64_in _ (by omega)
    have hwt3 : IntKind.i64.wrap (t : Int) = (t : Int) := IntWalk.i64_in _ (by omega)
    clear ht hcap
    go_enter Try.func62, Try.ntmps62
    go_wp2_with fail
    rw [← hW2]
    clear hW2
    refine (blTurns_any W H A n c a b A2 m c2 ps _ RP.out HW.out H64.out HML.out).mono ?_
    rintro e ws ⟨A1, n1, c1, rfl, hst, hb⟩
    replace a0 := cell_keep a0 al hb; replace a1 := cell_keep a1 al hb; replace a2 := cell_keep a2 al hb; replace al := lt_keep al hb
    replace l0 := cell_keep l0 ll hb; replace l1 := cell_keep l1 ll hb; replace ll := lt_keep ll hb
    replace RP := Lib.hid (RP.out.keep hb)
    replace B := Lib.hid (below_next B.out hb)
    have ST := Lib.hid hst.rd
    have SL := Lib.hid hst.len
    have hn1 : n1 ≤ 64 := by have := hst.len; have := tailsTo_len W a b ps (ps.length - 2); unfold tailsL at *; have := HPL.out; omega
    have AL := Lib.hid al; have LL := Lib.hid ll
    have HA := Lib.hid (⟨a0, a1, a2, l0, l1⟩ : ws.cell? ⟨w.heap.size, 0, none⟩ = some (.int .i64 W) ∧ ws.cell? ⟨w.heap.size, 1, none⟩ = some (.int .i64 H) ∧ ws.cell? ⟨w.heap.size, 2, none⟩ = some (.slice A n c) ∧ ws.cell? ⟨w.heap.size + 1, 0, none⟩ = some (.int .i64 a) ∧ ws.cell? ⟨w.heap.size + 1, 1, none⟩ = some (.int .i64 b))
    clear hst hb a0 a1 a2 l0 l1 al ll
    go_wp2
    go_loopw [26] (fun i wr => ∃ k : Nat, k ≤ n1 ∧ i = .int .i64 k ∧ closeR W a b (t + 1) ps = ((tailsL W a b ps).drop k).findSome? (fun k => closeR W a b t (turnL ps k.toNat)) ∧ Below ws.heap.size ws wr) (fun i _ => n1 - (intOf i).toNat)
    case atStart => exact ⟨0, Nat.zero_le _, rfl, by rw [List.drop_zero]; rfl, Below.refl _ _⟩
    case round =>
      obtain ⟨k, hk, rfl, hcl, hbw⟩ := hrel
      have HCL := Lib.hid hcl
      clear hcl
      by_cases hlt : k < n1
      · obtain ⟨bb, oo, x, rfl, hg1, hx, x0⟩ := ST.out.at_ hlt
        obtain ⟨j, rfl, hj1, hj2⟩ := tails_in (List.mem_of_getElem? hx)
        have hjm : j < m := by have := HPL.out; omega
        have HX := Lib.hid hx
        replace x0 := cell_keep x0 hg1 hbw
        have a0 := cell_keep HA.out.1 AL.out hbw; have a1 := cell_keep HA.out.2.1 AL.out hbw; have a2 := cell_keep HA.out.2.2.1 AL.out hbw; have l0 := cell_keep HA.out.2.2.2.1 LL.out hbw; have l1 := cell_keep HA.out.2.2.2.2 LL.out hbw
        have al := lt_keep AL.out hbw; have ll := lt_keep LL.out hbw
        have RPW := Lib.hid (RP.out.keep hbw)
        have HB := Lib.hid hbw
        have HT64 := Lib.hid (fun y (hy : y ∈ turnL ps j) => H64.out y (turnL_mem.1 hy))
        have HSTEP := Lib.hid (show closeR W a b (t + 1) ps = (match closeR W a b t (turnL ps j) with | some r => some r | none => ((tailsL W a b ps).drop (k + 1)).findSome? (fun k => closeR W a b t (turnL ps k.toNat))) by rw [HCL.out, drop_cons_of hx, List.findSome?_cons, Int.toNat_natCast]; cases closeR W a b t (turnL ps j) <;> rfl)
        have hm1000 : m ≤ 1000 := by omega
        clear hx hbw hg1 hj1 hj2
        cases hcr : closeR W a b t (turnL ps j) with
        | some rs =>
          rw [hcr] at HSTEP
          go_wp2_with fail
          refine wp_region_held_drew (S := fun w' => w'.cell? ⟨w.heap.size, 0, none⟩ = some (.int .i64 W) ∧ w'.cell? ⟨w.heap.size, 1, none⟩ = some (.int .i64 H) ∧ w'.cell? ⟨w.heap.size, 2, none⟩ = some (.slice A n c) ∧ w'.cell? ⟨w.heap.size + 1, 0, none⟩ = some (.int .i64 a) ∧ w'.cell? ⟨w.heap.size + 1, 1, none⟩ = some (.int .i64 b)) (by kernel_rfl) ?_ (fun hHeld => ?_)
          · (try dsimp only)
            exact ⟨a0, a1, a2, l0, l1⟩
          refine wpAnyH_take (i := 0) (oi := ⟨_, _, _, _, _, _⟩) (v := ?_) rfl (by kernel_rfl) (by kernel_rfl) (by kernel_rfl) (fun _ _ _ h => h) (Or.inl ⟨by rfl, ?_⟩) (by assumption) ?_
          rotate_left
          · intro w hSw
            (try dsimp only at hSw)
            go_simp
            (try with_reducible rfl)
          (try simp only [Act.put, List.setIfInBounds_toArray, List.set_cons_zero, List.set_cons_succ])
          refine wpAnyH_take (i := 1) (oi := ⟨_, _, _, _, _, _⟩) (v := ?_) rfl (by kernel_rfl) (by kernel_rfl) (by kernel_rfl) (fun _ _ _ h => h) (Or.inl ⟨by rfl, ?_⟩) (by assumption) ?_
          rotate_left
          · intro w hSw
            (try dsimp only at hSw)
            go_simp
            (try with_reducible rfl)
          (try simp only [Act.put, List.setIfInBounds_toArray, List.set_cons_zero, List.set_cons_succ])
          refine wpAnyH_take (i := 2) (oi := ⟨_, _, _, _, _, _⟩) (v := ?_) rfl (by kernel_rfl) (by kernel_rfl) (by kernel_rfl) (fun _ _ _ h => h) (Or.inl ⟨by rfl, ?_⟩) (by assumption) ?_
          rotate_left
          · intro w hSw
            (try dsimp only at hSw)
            go_simp
            (try with_reducible rfl)
          (try simp only [Act.put, List.setIfInBounds_toArray, List.set_cons_zero, List.set_cons_succ])
          refine wpAnyH_take (i := 3) (oi := ⟨_, _, _, _, _, _⟩) (v := ?_) rfl (by kernel_rfl) (by kernel_rfl) (by kernel_rfl) (fun _ _ _ h => h) (Or.inl ⟨by rfl, ?_⟩) (by assumption) ?_
          rotate_left
          · intro w hSw
            (try dsimp only at hSw)
            go_simp
            (try with_reducible rfl)
          (try simp only [Act.put, List.setIfInBounds_toArray, List.set_cons_zero, List.set_cons_succ])
          refine wpAnyH_take (i := 5) (oi := ⟨_, _, _, _, _, _⟩) (v := ?_) rfl (by kernel_rfl) (by kernel_rfl) (by kernel_rfl) (fun _ _ _ h => h) (Or.inl ⟨by rfl, ?_⟩) (by assumption) ?_
          rotate_left
          · intro w hSw
            (try dsimp only at hSw)
            go_simp
            (try with_reducible rfl)
          (try simp only [Act.put, List.setIfInBounds_toArray, List.set_cons_zero, List.set_cons_succ])
          refine wpAnyH_take (i := 6) (oi := ⟨_, _, _, _, _, _⟩) (v := ?_) rfl (by kernel_rfl) (by kernel_rfl) (by kernel_rfl) (fun _ _ _ h => h) (Or.inl ⟨by rfl, ?_⟩) (by assumption) ?_
          rotate_left
          · intro w hSw
            (try dsimp only at hSw)
            go_simp
            (try with_reducible rfl)
          (try simp only [Act.put, List.setIfInBounds_toArray, List.set_cons_zero, List.set_cons_succ])
          refine wpAnyH_ready (rs := [4]) (by kernel_rfl) (by simp) ?_
          refine AllReadyH.cons (o := ⟨_, _, _, _, _, _⟩) rfl (fun K hK => ?_) AllReadyH.nil
          go_simp
          (go_at_call 58; refine (blTurn_any A2 m c2 ps j _ ?_ ?_ ?_ ?_).mono ?_; (first | exact RPW.out | exact RPW.out.drew1 | exact RPW.out.drewN _); (exact HCAP.out); (omega); (omega); rintro e wx ⟨A5, c5, rfl, own, hb⟩; (repeat (first | replace hb := below_undrew hb | replace hb := below_undrewN hb)); have O5 := Lib.hid own; replace a0 := cell_keep a0 al hb; replace a1 := cell_keep a1 al hb; replace a2 := cell_keep a2 al hb; replace al := lt_keep al hb; replace l0 := cell_keep l0 ll hb; replace l1 := cell_keep l1 ll hb; replace ll := lt_keep ll hb; replace HB := Lib.hid (below_next HB.out hb); have HSX := Lib.hid HB.out.size; clear own hb)
          (try go_wp2_with fail)
          refine hK.out _ _ ?_ (fun hHeld => ?_)
          · (try dsimp only)
            exact ⟨a0, a1, a2, l0, l1⟩
          clear hK K
          (try simp only [Act.put, List.setIfInBounds_toArray, List.set_cons_zero, List.set_cons_succ])
          refine wpAnyH_ready (rs := [7]) (by kernel_rfl) (by simp) ?_
          refine AllReadyH.cons (o := ⟨_, _, _, _, _, _⟩) rfl (fun K hK => ?_) AllReadyH.nil
          go_simp
          (go_at_call 62; refine (ih A5 m c5 (turnL ps j) _ ?_ ?_ ?_ ?_ ?_ ?_).mono ?_; (first | exact O5.out.rd | exact O5.out.rd.drew1 | exact O5.out.rd.drewN _); (exact O5.out.cap); (exact HW.out); (exact HT64.out); (exact HML.out); (exact HT3.out); rw [hcr]; rintro e wy ⟨A6, m6, c6, rfl, hr, hb⟩; (repeat (first | replace hb := below_undrew hb | replace hb := below_undrewN hb)); replace a0 := cell_keep a0 al hb; replace a1 := cell_keep a1 al hb; replace a2 := cell_keep a2 al hb; replace al := lt_keep al hb; replace l0 := cell_keep l0 ll hb; replace l1 := cell_keep l1 ll hb; replace ll := lt_keep ll hb; replace HB := Lib.hid (below_next HB.out hb); clear hb O5)
          (try go_wp2_with fail)
          refine hK.out _ _ ?_ (fun hHeld => ?_)
          · (try dsimp only)
            exact ⟨a0, a1, a2, l0, l1⟩
          clear hK K
          (try simp only [Act.put, List.setIfInBounds_toArray, List.set_cons_zero, List.set_cons_succ])
          refine wpAnyH_take (i := 8) (oi := ⟨_, _, _, _, _, _⟩) (v := ?_) rfl (by kernel_rfl) (by kernel_rfl) (by kernel_rfl) (fun _ _ _ h => h) (Or.inl ⟨by rfl, ?_⟩) (by assumption) ?_
          rotate_left
          · intro w hSw
            (try dsimp only at hSw)
            go_simp
            (try with_reducible rfl)
          (try simp only [Act.put, List.setIfInBounds_toArray, List.set_cons_zero, List.set_cons_succ])
          refine wpAnyH_take (i := 9) (oi := ⟨_, _, _, _, _, _⟩) (v := ?_) rfl (by kernel_rfl) (by kernel_rfl) (by kernel_rfl) (fun _ _ _ h => h) (Or.inl ⟨by rfl, ?_⟩) (by assumption) ?_
          rotate_left
          · intro w hSw
            (try dsimp only at hSw)
            go_simp
            (try with_reducible rfl)
          (try simp only [Act.put, List.setIfInBounds_toArray, List.set_cons_zero, List.set_cons_succ])
          refine wpAnyH_take (i := 10) (oi := ⟨_, _, _, _, _, _⟩) (v := ?_) rfl (by kernel_rfl) (by kernel_rfl) (by kernel_rfl) (fun _ _ _ h => h) (Or.inl ⟨by rfl, ?_⟩) (by assumption) ?_
          rotate_left
          · intro w hSw
            (try dsimp only at hSw)
            go_simp
            (try with_reducible rfl)
          (try simp only [Act.put, List.setIfInBounds_toArray, List.set_cons_zero, List.set_cons_succ])
          refine wpAnyH_take (i := 11) (oi := ⟨_, _, _, _, _, _⟩) (v := ?_) rfl (by kernel_rfl) (by kernel_rfl) (by kernel_rfl) (fun _ _ _ h => h) (Or.inl ⟨by rfl, ?_⟩) (by assumption) ?_
          rotate_left
          · intro w hSw
            (try dsimp only at hSw)
            go_simp
            (try with_reducible rfl)
          (try simp only [Act.put, List.setIfInBounds_toArray, List.set_cons_zero, List.set_cons_succ])
          refine wpAnyH_take (i := 12) (oi := ⟨_, _, _, _, _, _⟩) (v := ?_) rfl (by kernel_rfl) (by kernel_rfl) (by kernel_rfl) (fun _ _ _ h => h) (Or.inl ⟨by rfl, ?_⟩) (by assumption) ?_
          rotate_left
          · intro w hSw
            (try dsimp only at hSw)
            go_simp
            (try with_reducible rfl)
          (try simp only [Act.put, List.setIfInBounds_toArray, List.set_cons_zero, List.set_cons_succ])
          refine wpAnyH_done (by kernel_rfl) ?_ _
          clear a0 a1 a2 l0 l1 al ll x0
          go_wp2
          go_ret2
          exact ⟨_, _, _, by rw [HSTEP.out]; rfl, fun qs h => by (rw [HSTEP.out] at h; injection h with h; subst h; exact hr _ rfl), B.out.trans (HB.out.mono B.out.size)⟩
        | none =>
          rw [hcr] at HSTEP
          go_wp2_with fail
          refine wp_region_held_drew (S := fun w' => w'.cell? ⟨w.heap.size, 0, none⟩ = some (.int .i64 W) ∧ w'.cell? ⟨w.heap.size, 1, none⟩ = some (.int .i64 H) ∧ w'.cell? ⟨w.heap.size, 2, none⟩ = some (.slice A n c) ∧ w'.cell? ⟨w.heap.size + 1, 0, none⟩ = some (.int .i64 a) ∧ w'.cell? ⟨w.heap.size + 1, 1, none⟩ = some (.int .i64 b)) (by kernel_rfl) ?_ (fun hHeld => ?_)
          · (try dsimp only)
            exact ⟨a0, a1, a2, l0, l1⟩
          refine wpAnyH_take (i := 0) (oi := ⟨_, _, _, _, _, _⟩) (v := ?_) rfl (by kernel_rfl) (by kernel_rfl) (by kernel_rfl) (fun _ _ _ h => h) (Or.inl ⟨by rfl, ?_⟩) (by assumption) ?_
          rotate_left
          · intro w hSw
            (try dsimp only at hSw)
            go_simp
            (try with_reducible rfl)
          (try simp only [Act.put, List.setIfInBounds_toArray, List.set_cons_zero, List.set_cons_succ])
          refine wpAnyH_take (i := 1) (oi := ⟨_, _, _, _, _, _⟩) (v := ?_) rfl (by kernel_rfl) (by kernel_rfl) (by kernel_rfl) (fun _ _ _ h => h) (Or.inl ⟨by rfl, ?_⟩) (by assumption) ?_
          rotate_left
          · intro w hSw
            (try dsimp only at hSw)
            go_simp
            (try with_reducible rfl)
          (try simp only [Act.put, List.setIfInBounds_toArray, List.set_cons_zero, List.set_cons_succ])
          refine wpAnyH_take (i := 2) (oi := ⟨_, _, _, _, _, _⟩) (v := ?_) rfl (by kernel_rfl) (by kernel_rfl) (by kernel_rfl) (fun _ _ _ h => h) (Or.inl ⟨by rfl, ?_⟩) (by assumption) ?_
          rotate_left
          · intro w hSw
            (try dsimp only at hSw)
            go_simp
            (try with_reducible rfl)
          (try simp only [Act.put, List.setIfInBounds_toArray, List.set_cons_zero, List.set_cons_succ])
          refine wpAnyH_take (i := 3) (oi := ⟨_, _, _, _, _, _⟩) (v := ?_) rfl (by kernel_rfl) (by kernel_rfl) (by kernel_rfl) (fun _ _ _ h => h) (Or.inl ⟨by rfl, ?_⟩) (by assumption) ?_
          rotate_left
          · intro w hSw
            (try dsimp only at hSw)
            go_simp
            (try with_reducible rfl)
          (try simp only [Act.put, List.setIfInBounds_toArray, List.set_cons_zero, List.set_cons_succ])
          refine wpAnyH_take (i := 5) (oi := ⟨_, _, _, _, _, _⟩) (v := ?_) rfl (by kernel_rfl) (by kernel_rfl) (by kernel_rfl) (fun _ _ _ h => h) (Or.inl ⟨by rfl, ?_⟩) (by assumption) ?_
          rotate_left
          · intro w hSw
            (try dsimp only at hSw)
            go_simp
            (try with_reducible rfl)
          (try simp only [Act.put, List.setIfInBounds_toArray, List.set_cons_zero, List.set_cons_succ])
          refine wpAnyH_take (i := 6) (oi := ⟨_, _, _, _, _, _⟩) (v := ?_) rfl (by kernel_rfl) (by kernel_rfl) (by kernel_rfl) (fun _ _ _ h => h) (Or.inl ⟨by rfl, ?_⟩) (by assumption) ?_
          rotate_left
          · intro w hSw
            (try dsimp only at hSw)
            go_simp
            (try with_reducible rfl)
          (try simp only [Act.put, List.setIfInBounds_toArray, List.set_cons_zero, List.set_cons_succ])
          refine wpAnyH_ready (rs := [4]) (by kernel_rfl) (by simp) ?_
          refine AllReadyH.cons (o := ⟨_, _, _, _, _, _⟩) rfl (fun K hK => ?_) AllReadyH.nil
          go_simp
          (go_at_call 58; refine (blTurn_any A2 m c2 ps j _ ?_ ?_ ?_ ?_).mono ?_; (first | exact RPW.out | exact RPW.out.drew1 | exact RPW.out.drewN _); (exact HCAP.out); (omega); (omega); rintro e wx ⟨A5, c5, rfl, own, hb⟩; (repeat (first | replace hb := below_undrew hb | replace hb := below_undrewN hb)); have O5 := Lib.hid own; replace a0 := cell_keep a0 al hb; replace a1 := cell_keep a1 al hb; replace a2 := cell_keep a2 al hb; replace al := lt_keep al hb; replace l0 := cell_keep l0 ll hb; replace l1 := cell_keep l1 ll hb; replace ll := lt_keep ll hb; replace HB := Lib.hid (below_next HB.out hb); have HSX := Lib.hid HB.out.size; clear own hb)
          (try go_wp2_with fail)
          refine hK.out _ _ ?_ (fun hHeld => ?_)
          · (try dsimp only)
            exact ⟨a0, a1, a2, l0, l1⟩
          clear hK K
          (try simp only [Act.put, List.setIfInBounds_toArray, List.set_cons_zero, List.set_cons_succ])
          refine wpAnyH_ready (rs := [7]) (by kernel_rfl) (by simp) ?_
          refine AllReadyH.cons (o := ⟨_, _, _, _, _, _⟩) rfl (fun K hK => ?_) AllReadyH.nil
          go_simp
          (go_at_call 62; refine (ih A5 m c5 (turnL ps j) _ ?_ ?_ ?_ ?_ ?_ ?_).mono ?_; (first | exact O5.out.rd | exact O5.out.rd.drew1 | exact O5.out.rd.drewN _); (exact O5.out.cap); (exact HW.out); (exact HT64.out); (exact HML.out); (exact HT3.out); rw [hcr]; rintro e wy ⟨A6, m6, c6, rfl, hr, hb⟩; (repeat (first | replace hb := below_undrew hb | replace hb := below_undrewN hb)); replace a0 := cell_keep a0 al hb; replace a1 := cell_keep a1 al hb; replace a2 := cell_keep a2 al hb; replace al := lt_keep al hb; replace l0 := cell_keep l0 ll hb; replace l1 := cell_keep l1 ll hb; replace ll := lt_keep ll hb; replace HB := Lib.hid (below_next HB.out hb); clear hb O5)
          (try go_wp2_with fail)
          refine hK.out _ _ ?_ (fun hHeld => ?_)
          · (try dsimp only)
            exact ⟨a0, a1, a2, l0, l1⟩
          clear hK K
          (try simp only [Act.put, List.setIfInBounds_toArray, List.set_cons_zero, List.set_cons_succ])
          refine wpAnyH_take (i := 8) (oi := ⟨_, _, _, _, _, _⟩) (v := ?_) rfl (by kernel_rfl) (by kernel_rfl) (by kernel_rfl) (fun _ _ _ h => h) (Or.inl ⟨by rfl, ?_⟩) (by assumption) ?_
          rotate_left
          · intro w hSw
            (try dsimp only at hSw)
            go_simp
            (try with_reducible rfl)
          (try simp only [Act.put, List.setIfInBounds_toArray, List.set_cons_zero, List.set_cons_succ])
          refine wpAnyH_take (i := 9) (oi := ⟨_, _, _, _, _, _⟩) (v := ?_) rfl (by kernel_rfl) (by kernel_rfl) (by kernel_rfl) (fun _ _ _ h => h) (Or.inl ⟨by rfl, ?_⟩) (by assumption) ?_
          rotate_left
          · intro w hSw
            (try dsimp only at hSw)
            go_simp
            (try with_reducible rfl)
          (try simp only [Act.put, List.setIfInBounds_toArray, List.set_cons_zero, List.set_cons_succ])
          refine wpAnyH_take (i := 10) (oi := ⟨_, _, _, _, _, _⟩) (v := ?_) rfl (by kernel_rfl) (by kernel_rfl) (by kernel_rfl) (fun _ _ _ h => h) (Or.inl ⟨by rfl, ?_⟩) (by assumption) ?_
          rotate_left
          · intro w hSw
            (try dsimp only at hSw)
            go_simp
            (try with_reducible rfl)
          (try simp only [Act.put, List.setIfInBounds_toArray, List.set_cons_zero, List.set_cons_succ])
          refine wpAnyH_take (i := 11) (oi := ⟨_, _, _, _, _, _⟩) (v := ?_) rfl (by kernel_rfl) (by kernel_rfl) (by kernel_rfl) (fun _ _ _ h => h) (Or.inl ⟨by rfl, ?_⟩) (by assumption) ?_
          rotate_left
          · intro w hSw
            (try dsimp only at hSw)
            go_simp
            (try with_reducible rfl)
          (try simp only [Act.put, List.setIfInBounds_toArray, List.set_cons_zero, List.set_cons_succ])
          refine wpAnyH_take (i := 12) (oi := ⟨_, _, _, _, _, _⟩) (v := ?_) rfl (by kernel_rfl) (by kernel_rfl) (by kernel_rfl) (fun _ _ _ h => h) (Or.inl ⟨by rfl, ?_⟩) (by assumption) ?_
          rotate_left
          · intro w hSw
            (try dsimp only at hSw)
            go_simp
            (try with_reducible rfl)
          (try simp only [Act.put, List.setIfInBounds_toArray, List.set_cons_zero, List.set_cons_succ])
          refine wpAnyH_done (by kernel_rfl) ?_ _
          clear a0 a1 a2 l0 l1 al ll x0
          clear hr
          go_wp2
          go_roundw
          case rel => exact ⟨k + 1, by omega, by go_num, HSTEP.out, HB.out⟩
          case measure => simp [intOf]; omega
      · have HE := Lib.hid (show closeR W a b (t + 1) ps = none by rw [HCL.out, List.drop_of_length_le (by have := SL.out; omega)]; rfl)
        have HB := Lib.hid hbw
        clear hbw
        go_wp2
        go_ret2
        exact ⟨none, 0, 0, by rw [HE.out]; rfl, fun qs h => by (rw [HE.out] at h; cases h), B.out.trans (HB.out.mono B.out.size)⟩

set_option maxRecDepth 100000 in
set_option maxHeartbeats 4000000 in
theorem closedAfter_any (W H : Int) (A : Option Addr) (n c : Nat) (a b : Int) : ∀ (t : Nat) (A2 : Option Addr) (m c2 : Nat) (ps : List Int) (w : World), Rd w A2 m ps → m ≤ c2 → 1 ≤ W ∧ W ≤ 8 → (∀ x ∈ ps, 0 ≤ x ∧ x < 64) → 1 ≤ m ∧ m ≤ 64 → t ≤ 3 →
    Calls Try.prog 64 #[brd W H A n c, lpr a b, .slice A2 m c2, .int .i64 (t : Int)] w fun e w' => ∃ A' m' c', e = .returned (.slice A' m' c') ∧ (closeR W a b t ps = none → A' = none ∧ m' = 0 ∧ c' = 0) ∧ (∀ qs, closeR W a b t ps = some qs → (∃ ad, A' = some ad) ∧ OwnI 3 w' w.heap.size A' m' c' qs) ∧ Below w.heap.size w w' := by
  intro t
  induction t with
  | zero =>
    intro A2 m c2 ps w hp hcap hW h64 hm ht
    obtain ⟨bb, oo, x9, rfl, -, -, -⟩ := hp.at_ (k := 0) (by omega)
    obtain ⟨W2, hW2⟩ : ∃ W2, W2 = (w.alloc (.cells #[.int .i64 W, .int .i64 H, .slice A n c] 30)).alloc (.cells #[.int .i64 a, .int .i64 b] 32) := ⟨_, rfl⟩
    have a0 : W2.cell? ⟨w.heap.size, 0, none⟩ = some (.int .i64 W) := by rw [hW2]; go_simp
    have a1 : W2.cell? ⟨w.heap.size, 1, none⟩ = some (.int .i64 H) := by rw [hW2]; go_simp
    have a2 : W2.cell? ⟨w.heap.size, 2, none⟩ = some (.slice A n c) := by rw [hW2]; go_simp
    have l0 : W2.cell? ⟨w.heap.size + 1, 0, none⟩ = some (.int .i64 a) := by rw [hW2]; go_simp
    have l1 : W2.cell? ⟨w.heap.size + 1, 1, none⟩ = some (.int .i64 b) := by rw [hW2]; go_simp
    have al : w.heap.size < W2.heap.size := by rw [hW2]; simp; omega
    have ll : w.heap.size + 1 < W2.heap.size := by rw [hW2]; simp
    have B := Lib.hid (show Below w.heap.size w W2 by rw [hW2]; exact ((Below.refl _ _).alloc (Nat.le_refl _) _).alloc (by simp) _)
    have RP := Lib.hid (hp.keep B.out)
    have HPL := Lib.hid hp.1
    have HW := Lib.hid hW; have H64 := Lib.hid h64
    clear hp hW h64
    have hm64 := hm.2
    clear hm ht
    cases he : endB W a b ps with
    | true =>
      go_enter Try.func64, Try.ntmps64
      go_wp2_with fail
      rw [← hW2]
      clear hW2
      refine (isClosed_any W H A n c a b _ m c2 ps _ RP.out HW.out H64.out).mono ?_
      rw [he]
      rintro e wv ⟨rfl, hb⟩
      replace RP := Lib.hid (RP.out.keep hb)
      replace B := Lib.hid (below_next B.out hb)
      have HC := Lib.hid (fun j (hj : j < ps.length) => show wv.cell? ⟨bb, oo + j, none⟩ = some (.int .i64 (ps.getD j 0)) by
        have hx : ps[j]? = some ps[j] := List.getElem?_eq_getElem hj
        have := RP.out.cell_ hx
        rw [Addr.add_lit] at this
        rw [List.getD_eq_getElem?_getD, hx]; exact this)
      clear hb a0 a1 a2 l0 l1 al ll
      go_wp2_with fail
      refine (Try.slices_Clone_int bb oo m c2 ps wv (by have := HPL.out; omega) (by omega) HC.out).mono ?_
      rintro e wx ⟨v', rfl, own, hnn, hb⟩
      rw [List.take_of_length_le (by have := HPL.out; omega)] at own
      obtain ⟨A9, c9, rfl, own9⟩ := own_form own
      have O9 := Lib.hid (own9.lower B.out.size)
      have hsome : ∃ ad, A9 = some ad := by
        cases A9 with
        | some ad => exact ⟨ad, rfl⟩
        | none => exact absurd (own9.form.elim (fun h => by obtain ⟨-, h2, h3, -⟩ := h; rw [h2, h3]) (fun h => by obtain ⟨g, h1, -⟩ := h; cases h1)) hnn
      replace B := Lib.hid (below_next B.out hb)
      clear own own9 hb hnn
      go_wp2
      go_ret
      exact ⟨_, _, _, rfl, fun h => by (rw [closeR, he] at h; cases h), fun qs h => by (rw [closeR, he] at h; injection h with h; subst h; exact ⟨hsome, O9.out⟩), B.out⟩
    | false =>
      go_enter Try.func64, Try.ntmps64
      go_wp2_with fail
      rw [← hW2]
      clear hW2
      refine (isClosed_any W H A n c a b _ m c2 ps _ RP.out HW.out H64.out).mono ?_
      rw [he]
      rintro e wv ⟨rfl, hb⟩
      replace B := Lib.hid (below_next B.out hb)
      clear hb a0 a1 a2 l0 l1 al ll
      go_wp2
      go_ret
      exact ⟨none, 0, 0, rfl, fun _ => ⟨rfl, rfl, rfl⟩, fun qs h => by (rw [closeR, he] at h; cases h), B.out⟩
  | succ t ih =>
    intro A2 m c2 ps w hp hcap hW h64 hm ht
    obtain ⟨W2, hW2⟩ : ∃ W2, W2 = (w.alloc (.cells #[.int .i64 W, .int .i64 H, .slice A n c] 30)).alloc (.cells #[.int .i64 a, .int .i64 b] 32) := ⟨_, rfl⟩
    have a0 : W2.cell? ⟨w.heap.size, 0, none⟩ = some (.int .i64 W) := by rw [hW2]; go_simp
    have a1 : W2.cell? ⟨w.heap.size, 1, none⟩ = some (.int .i64 H) := by rw [hW2]; go_simp
    have a2 : W2.cell? ⟨w.heap.size, 2, none⟩ = some (.slice A n c) := by rw [hW2]; go_simp
    have l0 : W2.cell? ⟨w.heap.size + 1, 0, none⟩ = some (.int .i64 a) := by rw [hW2]; go_simp
    have l1 : W2.cell? ⟨w.heap.size + 1, 1, none⟩ = some (.int .i64 b) := by rw [hW2]; go_simp
    have al : w.heap.size < W2.heap.size := by rw [hW2]; simp; omega
    have ll : w.heap.size + 1 < W2.heap.size := by rw [hW2]; simp
    have B := Lib.hid (show Below w.heap.size w W2 by rw [hW2]; exact ((Below.refl _ _).alloc (Nat.le_refl _) _).alloc (by simp) _)
    have RP := Lib.hid (hp.keep B.out)
    have HPL := Lib.hid hp.1
    have HW := Lib.hid hW; have H64 := Lib.hid h64
    clear hp hW h64
    have HML := Lib.hid hm
    have HT3 := Lib.hid (show t ≤ 3 by omega)
    have HCAP := Lib.hid hcap
    obtain ⟨hm1, hm2⟩ := hm
    have hne : ¬ ((t : Int) + 1 = 0) := by omega
    have hne2 : ¬ (((t + 1 : Nat) : Int) = 0) := by omega
    have hwt : IntKind.i64.wrap (((t + 1 : Nat) : Int) - 1) = (t : Int) := by rw [show (((t + 1 : Nat) : Int) - 1) = (t : Int) by omega]; exact IntWalk.i64_in _ (by omega)
    have hwt2 : IntKind.i64.wrap ((t : Int) + 1 - 1) = (t : Int) := by rw [show ((t : Int) + 1 - 1) = (t : Int) by omega]; exact IntWalk.i64_in _ (by omega)
    have hwt3 : IntKind.i64.wrap (t : Int) = (t : Int) := IntWalk.i64_in _ (by omega)
    clear ht hcap
    go_enter Try.func64, Try.ntmps64
    go_wp2_with fail
    rw [← hW2]
    clear hW2
    refine (tailTurns_any W H A n c a b A2 m c2 ps _ RP.out HW.out H64.out HML.out).mono ?_
    rintro e ws ⟨A1, n1, c1, rfl, hst, hb⟩
    replace a0 := cell_keep a0 al hb; replace a1 := cell_keep a1 al hb; replace a2 := cell_keep a2 al hb; replace al := lt_keep al hb
    replace l0 := cell_keep l0 ll hb; replace l1 := cell_keep l1 ll hb; replace ll := lt_keep ll hb
    replace RP := Lib.hid (RP.out.keep hb)
    replace B := Lib.hid (below_next B.out hb)
    have ST := Lib.hid hst.rd
    have SL := Lib.hid hst.len
    have hn1 : n1 ≤ 64 := by have := hst.len; have := tailsTo_len W a b ps (ps.length - 2); unfold tailsL at *; have := HPL.out; omega
    have AL := Lib.hid al; have LL := Lib.hid ll
    have HA := Lib.hid (⟨a0, a1, a2, l0, l1⟩ : ws.cell? ⟨w.heap.size, 0, none⟩ = some (.int .i64 W) ∧ ws.cell? ⟨w.heap.size, 1, none⟩ = some (.int .i64 H) ∧ ws.cell? ⟨w.heap.size, 2, none⟩ = some (.slice A n c) ∧ ws.cell? ⟨w.heap.size + 1, 0, none⟩ = some (.int .i64 a) ∧ ws.cell? ⟨w.heap.size + 1, 1, none⟩ = some (.int .i64 b))
    clear hst hb a0 a1 a2 l0 l1 al ll
    go_wp2
    go_loopw [25] (fun i wr => ∃ k : Nat, k ≤ n1 ∧ i = .int .i64 k ∧ closeR W a b (t + 1) ps = ((tailsL W a b ps).drop k).findSome? (fun k => closeR W a b t (turnL ps k.toNat)) ∧ Below ws.heap.size ws wr) (fun i _ => n1 - (intOf i).toNat)
    case atStart => exact ⟨0, Nat.zero_le _, rfl, by rw [List.drop_zero]; rfl, Below.refl _ _⟩
    case round =>
      obtain ⟨k, hk, rfl, hcl, hbw⟩ := hrel
      have HCL := Lib.hid hcl
      clear hcl
      by_cases hlt : k < n1
      · obtain ⟨bb, oo, x, rfl, hg1, hx, x0⟩ := ST.out.at_ hlt
        obtain ⟨j, rfl, hj1, hj2⟩ := tails_in (List.mem_of_getElem? hx)
        have hjm : j < m := by have := HPL.out; omega
        have HX := Lib.hid hx
        replace x0 := cell_keep x0 hg1 hbw
        have a0 := cell_keep HA.out.1 AL.out hbw; have a1 := cell_keep HA.out.2.1 AL.out hbw; have a2 := cell_keep HA.out.2.2.1 AL.out hbw; have l0 := cell_keep HA.out.2.2.2.1 LL.out hbw; have l1 := cell_keep HA.out.2.2.2.2 LL.out hbw
        have al := lt_keep AL.out hbw; have ll := lt_keep LL.out hbw
        have RPW := Lib.hid (RP.out.keep hbw)
        have HB := Lib.hid hbw
        have HT64 := Lib.hid (fun y (hy : y ∈ turnL ps j) => H64.out y (turnL_mem.1 hy))
        have HSTEP := Lib.hid (show closeR W a b (t + 1) ps = (match closeR W a b t (turnL ps j) with | some r => some r | none => ((tailsL W a b ps).drop (k + 1)).findSome? (fun k => closeR W a b t (turnL ps k.toNat))) by rw [HCL.out, drop_cons_of hx, List.findSome?_cons, Int.toNat_natCast]; cases closeR W a b t (turnL ps j) <;> rfl)
        have hm1000 : m ≤ 1000 := by omega
        clear hx hbw hg1 hj1 hj2
        cases hcr : closeR W a b t (turnL ps j) with
        | some rs =>
          rw [hcr] at HSTEP
          go_wp2_with fail
          refine wp_region_held_drew (S := fun w' => w'.cell? ⟨w.heap.size, 0, none⟩ = some (.int .i64 W) ∧ w'.cell? ⟨w.heap.size, 1, none⟩ = some (.int .i64 H) ∧ w'.cell? ⟨w.heap.size, 2, none⟩ = some (.slice A n c) ∧ w'.cell? ⟨w.heap.size + 1, 0, none⟩ = some (.int .i64 a) ∧ w'.cell? ⟨w.heap.size + 1, 1, none⟩ = some (.int .i64 b)) (by kernel_rfl) ?_ (fun hHeld => ?_)
          · (try dsimp only)
            exact ⟨a0, a1, a2, l0, l1⟩
          refine wpAnyH_take (i := 0) (oi := ⟨_, _, _, _, _, _⟩) (v := ?_) rfl (by kernel_rfl) (by kernel_rfl) (by kernel_rfl) (fun _ _ _ h => h) (Or.inl ⟨by rfl, ?_⟩) (by assumption) ?_
          rotate_left
          · intro w hSw
            (try dsimp only at hSw)
            go_simp
            (try with_reducible rfl)
          (try simp only [Act.put, List.setIfInBounds_toArray, List.set_cons_zero, List.set_cons_succ])
          refine wpAnyH_take (i := 1) (oi := ⟨_, _, _, _, _, _⟩) (v := ?_) rfl (by kernel_rfl) (by kernel_rfl) (by kernel_rfl) (fun _ _ _ h => h) (Or.inl ⟨by rfl, ?_⟩) (by assumption) ?_
          rotate_left
          · intro w hSw
            (try dsimp only at hSw)
            go_simp
            (try with_reducible rfl)
          (try simp only [Act.put, List.setIfInBounds_toArray, List.set_cons_zero, List.set_cons_succ])
          refine wpAnyH_take (i := 2) (oi := ⟨_, _, _, _, _, _⟩) (v := ?_) rfl (by kernel_rfl) (by kernel_rfl) (by kernel_rfl) (fun _ _ _ h => h) (Or.inl ⟨by rfl, ?_⟩) (by assumption) ?_
          rotate_left
          · intro w hSw
            (try dsimp only at hSw)
            go_simp
            (try with_reducible rfl)
          (try simp only [Act.put, List.setIfInBounds_toArray, List.set_cons_zero, List.set_cons_succ])
          refine wpAnyH_take (i := 3) (oi := ⟨_, _, _, _, _, _⟩) (v := ?_) rfl (by kernel_rfl) (by kernel_rfl) (by kernel_rfl) (fun _ _ _ h => h) (Or.inl ⟨by rfl, ?_⟩) (by assumption) ?_
          rotate_left
          · intro w hSw
            (try dsimp only at hSw)
            go_simp
            (try with_reducible rfl)
          (try simp only [Act.put, List.setIfInBounds_toArray, List.set_cons_zero, List.set_cons_succ])
          refine wpAnyH_take (i := 5) (oi := ⟨_, _, _, _, _, _⟩) (v := ?_) rfl (by kernel_rfl) (by kernel_rfl) (by kernel_rfl) (fun _ _ _ h => h) (Or.inl ⟨by rfl, ?_⟩) (by assumption) ?_
          rotate_left
          · intro w hSw
            (try dsimp only at hSw)
            go_simp
            (try with_reducible rfl)
          (try simp only [Act.put, List.setIfInBounds_toArray, List.set_cons_zero, List.set_cons_succ])
          refine wpAnyH_take (i := 6) (oi := ⟨_, _, _, _, _, _⟩) (v := ?_) rfl (by kernel_rfl) (by kernel_rfl) (by kernel_rfl) (fun _ _ _ h => h) (Or.inl ⟨by rfl, ?_⟩) (by assumption) ?_
          rotate_left
          · intro w hSw
            (try dsimp only at hSw)
            go_simp
            (try with_reducible rfl)
          (try simp only [Act.put, List.setIfInBounds_toArray, List.set_cons_zero, List.set_cons_succ])
          refine wpAnyH_ready (rs := [4]) (by kernel_rfl) (by simp) ?_
          refine AllReadyH.cons (o := ⟨_, _, _, _, _, _⟩) rfl (fun K hK => ?_) AllReadyH.nil
          go_simp
          (go_at_call 55; refine (turnedAt_any A2 m c2 ps j _ ?_ ?_ ?_).mono ?_; (first | exact RPW.out | exact RPW.out.drew1 | exact RPW.out.drewN _); (omega); (omega); rintro e wx ⟨A5, c5, rfl, own, hb⟩; (repeat (first | replace hb := below_undrew hb | replace hb := below_undrewN hb)); have O5 := Lib.hid own; replace a0 := cell_keep a0 al hb; replace a1 := cell_keep a1 al hb; replace a2 := cell_keep a2 al hb; replace al := lt_keep al hb; replace l0 := cell_keep l0 ll hb; replace l1 := cell_keep l1 ll hb; replace ll := lt_keep ll hb; replace HB := Lib.hid (below_next HB.out hb); have HSX := Lib.hid HB.out.size; clear own hb)
          (try go_wp2_with fail)
          refine hK.out _ _ ?_ (fun hHeld => ?_)
          · (try dsimp only)
            exact ⟨a0, a1, a2, l0, l1⟩
          clear hK K
          (try simp only [Act.put, List.setIfInBounds_toArray, List.set_cons_zero, List.set_cons_succ])
          refine wpAnyH_ready (rs := [7]) (by kernel_rfl) (by simp) ?_
          refine AllReadyH.cons (o := ⟨_, _, _, _, _, _⟩) rfl (fun K hK => ?_) AllReadyH.nil
          go_simp
          (go_at_call 64; refine (ih A5 m c5 (turnL ps j) _ ?_ ?_ ?_ ?_ ?_ ?_).mono ?_; (first | exact O5.out.rd | exact O5.out.rd.drew1 | exact O5.out.rd.drewN _); (exact O5.out.cap); (exact HW.out); (exact HT64.out); (exact HML.out); (exact HT3.out); rw [hcr]; rintro e wy ⟨A6, m6, c6, rfl, hr0, hr, hb⟩; (repeat (first | replace hb := below_undrew hb | replace hb := below_undrewN hb)); replace a0 := cell_keep a0 al hb; replace a1 := cell_keep a1 al hb; replace a2 := cell_keep a2 al hb; replace al := lt_keep al hb; replace l0 := cell_keep l0 ll hb; replace l1 := cell_keep l1 ll hb; replace ll := lt_keep ll hb; replace HB := Lib.hid (below_next HB.out hb); clear hb O5)
          (try go_wp2_with fail)
          refine hK.out _ _ ?_ (fun hHeld => ?_)
          · (try dsimp only)
            exact ⟨a0, a1, a2, l0, l1⟩
          clear hK K
          (try simp only [Act.put, List.setIfInBounds_toArray, List.set_cons_zero, List.set_cons_succ])
          refine wpAnyH_take (i := 8) (oi := ⟨_, _, _, _, _, _⟩) (v := ?_) rfl (by kernel_rfl) (by kernel_rfl) (by kernel_rfl) (fun _ _ _ h => h) (Or.inl ⟨by rfl, ?_⟩) (by assumption) ?_
          rotate_left
          · intro w hSw
            (try dsimp only at hSw)
            go_simp
            (try with_reducible rfl)
          (try simp only [Act.put, List.setIfInBounds_toArray, List.set_cons_zero, List.set_cons_succ])
          refine wpAnyH_done (by kernel_rfl) ?_ _
          clear a0 a1 a2 l0 l1 al ll x0
          obtain ⟨⟨ad, rfl⟩, own6⟩ := hr _ rfl
          have O6 := Lib.hid (own6.lower (show w.heap.size ≤ _ by have := B.out.size; have := HSX.out; omega))
          clear hr hr0 own6
          go_wp2
          go_ret
          exact ⟨_, _, _, rfl, fun h => by (rw [HSTEP.out] at h; cases h), fun qs h => by (rw [HSTEP.out] at h; injection h with h; subst h; exact ⟨⟨ad, rfl⟩, O6.out⟩), B.out.trans (HB.out.mono B.out.size)⟩
        | none =>
          rw [hcr] at HSTEP
          go_wp2_with fail
          refine wp_region_held_drew (S := fun w' => w'.cell? ⟨w.heap.size, 0, none⟩ = some (.int .i64 W) ∧ w'.cell? ⟨w.heap.size, 1, none⟩ = some (.int .i64 H) ∧ w'.cell? ⟨w.heap.size, 2, none⟩ = some (.slice A n c) ∧ w'.cell? ⟨w.heap.size + 1, 0, none⟩ = some (.int .i64 a) ∧ w'.cell? ⟨w.heap.size + 1, 1, none⟩ = some (.int .i64 b)) (by kernel_rfl) ?_ (fun hHeld => ?_)
          · (try dsimp only)
            exact ⟨a0, a1, a2, l0, l1⟩
          refine wpAnyH_take (i := 0) (oi := ⟨_, _, _, _, _, _⟩) (v := ?_) rfl (by kernel_rfl) (by kernel_rfl) (by kernel_rfl) (fun _ _ _ h => h) (Or.inl ⟨by rfl, ?_⟩) (by assumption) ?_
          rotate_left
          · intro w hSw
            (try dsimp only at hSw)
            go_simp
            (try with_reducible rfl)
          (try simp only [Act.put, List.setIfInBounds_toArray, List.set_cons_zero, List.set_cons_succ])
          refine wpAnyH_take (i := 1) (oi := ⟨_, _, _, _, _, _⟩) (v := ?_) rfl (by kernel_rfl) (by kernel_rfl) (by kernel_rfl) (fun _ _ _ h => h) (Or.inl ⟨by rfl, ?_⟩) (by assumption) ?_
          rotate_left
          · intro w hSw
            (try dsimp only at hSw)
            go_simp
            (try with_reducible rfl)
          (try simp only [Act.put, List.setIfInBounds_toArray, List.set_cons_zero, List.set_cons_succ])
          refine wpAnyH_take (i := 2) (oi := ⟨_, _, _, _, _, _⟩) (v := ?_) rfl (by kernel_rfl) (by kernel_rfl) (by kernel_rfl) (fun _ _ _ h => h) (Or.inl ⟨by rfl, ?_⟩) (by assumption) ?_
          rotate_left
          · intro w hSw
            (try dsimp only at hSw)
            go_simp
            (try with_reducible rfl)
          (try simp only [Act.put, List.setIfInBounds_toArray, List.set_cons_zero, List.set_cons_succ])
          refine wpAnyH_take (i := 3) (oi := ⟨_, _, _, _, _, _⟩) (v := ?_) rfl (by kernel_rfl) (by kernel_rfl) (by kernel_rfl) (fun _ _ _ h => h) (Or.inl ⟨by rfl, ?_⟩) (by assumption) ?_
          rotate_left
          · intro w hSw
            (try dsimp only at hSw)
            go_simp
            (try with_reducible rfl)
          (try simp only [Act.put, List.setIfInBounds_toArray, List.set_cons_zero, List.set_cons_succ])
          refine wpAnyH_take (i := 5) (oi := ⟨_, _, _, _, _, _⟩) (v := ?_) rfl (by kernel_rfl) (by kernel_rfl) (by kernel_rfl) (fun _ _ _ h => h) (Or.inl ⟨by rfl, ?_⟩) (by assumption) ?_
          rotate_left
          · intro w hSw
            (try dsimp only at hSw)
            go_simp
            (try with_reducible rfl)
          (try simp only [Act.put, List.setIfInBounds_toArray, List.set_cons_zero, List.set_cons_succ])
          refine wpAnyH_take (i := 6) (oi := ⟨_, _, _, _, _, _⟩) (v := ?_) rfl (by kernel_rfl) (by kernel_rfl) (by kernel_rfl) (fun _ _ _ h => h) (Or.inl ⟨by rfl, ?_⟩) (by assumption) ?_
          rotate_left
          · intro w hSw
            (try dsimp only at hSw)
            go_simp
            (try with_reducible rfl)
          (try simp only [Act.put, List.setIfInBounds_toArray, List.set_cons_zero, List.set_cons_succ])
          refine wpAnyH_ready (rs := [4]) (by kernel_rfl) (by simp) ?_
          refine AllReadyH.cons (o := ⟨_, _, _, _, _, _⟩) rfl (fun K hK => ?_) AllReadyH.nil
          go_simp
          (go_at_call 55; refine (turnedAt_any A2 m c2 ps j _ ?_ ?_ ?_).mono ?_; (first | exact RPW.out | exact RPW.out.drew1 | exact RPW.out.drewN _); (omega); (omega); rintro e wx ⟨A5, c5, rfl, own, hb⟩; (repeat (first | replace hb := below_undrew hb | replace hb := below_undrewN hb)); have O5 := Lib.hid own; replace a0 := cell_keep a0 al hb; replace a1 := cell_keep a1 al hb; replace a2 := cell_keep a2 al hb; replace al := lt_keep al hb; replace l0 := cell_keep l0 ll hb; replace l1 := cell_keep l1 ll hb; replace ll := lt_keep ll hb; replace HB := Lib.hid (below_next HB.out hb); have HSX := Lib.hid HB.out.size; clear own hb)
          (try go_wp2_with fail)
          refine hK.out _ _ ?_ (fun hHeld => ?_)
          · (try dsimp only)
            exact ⟨a0, a1, a2, l0, l1⟩
          clear hK K
          (try simp only [Act.put, List.setIfInBounds_toArray, List.set_cons_zero, List.set_cons_succ])
          refine wpAnyH_ready (rs := [7]) (by kernel_rfl) (by simp) ?_
          refine AllReadyH.cons (o := ⟨_, _, _, _, _, _⟩) rfl (fun K hK => ?_) AllReadyH.nil
          go_simp
          (go_at_call 64; refine (ih A5 m c5 (turnL ps j) _ ?_ ?_ ?_ ?_ ?_ ?_).mono ?_; (first | exact O5.out.rd | exact O5.out.rd.drew1 | exact O5.out.rd.drewN _); (exact O5.out.cap); (exact HW.out); (exact HT64.out); (exact HML.out); (exact HT3.out); rw [hcr]; rintro e wy ⟨A6, m6, c6, rfl, hr0, hr, hb⟩; (repeat (first | replace hb := below_undrew hb | replace hb := below_undrewN hb)); replace a0 := cell_keep a0 al hb; replace a1 := cell_keep a1 al hb; replace a2 := cell_keep a2 al hb; replace al := lt_keep al hb; replace l0 := cell_keep l0 ll hb; replace l1 := cell_keep l1 ll hb; replace ll := lt_keep ll hb; replace HB := Lib.hid (below_next HB.out hb); clear hb O5)
          (try go_wp2_with fail)
          refine hK.out _ _ ?_ (fun hHeld => ?_)
          · (try dsimp only)
            exact ⟨a0, a1, a2, l0, l1⟩
          clear hK K
          (try simp only [Act.put, List.setIfInBounds_toArray, List.set_cons_zero, List.set_cons_succ])
          refine wpAnyH_take (i := 8) (oi := ⟨_, _, _, _, _, _⟩) (v := ?_) rfl (by kernel_rfl) (by kernel_rfl) (by kernel_rfl) (fun _ _ _ h => h) (Or.inl ⟨by rfl, ?_⟩) (by assumption) ?_
          rotate_left
          · intro w hSw
            (try dsimp only at hSw)
            go_simp
            (try with_reducible rfl)
          (try simp only [Act.put, List.setIfInBounds_toArray, List.set_cons_zero, List.set_cons_succ])
          refine wpAnyH_done (by kernel_rfl) ?_ _
          clear a0 a1 a2 l0 l1 al ll x0
          obtain ⟨rfl, rfl, rfl⟩ := hr0 (by trivial)
          clear hr hr0
          go_wp2
          go_roundw
          case rel => exact ⟨k + 1, by omega, by go_num, HSTEP.out, HB.out⟩
          case measure => simp [intOf]; omega
      · have HE := Lib.hid (show closeR W a b (t + 1) ps = none by rw [HCL.out, List.drop_of_length_le (by have := SL.out; omega)]; rfl)
        have HB := Lib.hid hbw
        clear hbw
        go_wp2
        go_ret
        exact ⟨none, 0, 0, rfl, fun _ => ⟨rfl, rfl, rfl⟩, fun qs h => by (rw [HE.out] at h; cases h), B.out.trans (HB.out.mono B.out.size)⟩

end Go.Proofs.Ytphjkmikleldcaa
