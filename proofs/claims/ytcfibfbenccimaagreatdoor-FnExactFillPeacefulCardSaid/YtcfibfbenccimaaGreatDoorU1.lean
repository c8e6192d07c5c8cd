/-
  Contracts: a number put into an increasing list (the model).
-/
import Derived.Test.YtcfibfbenccimaaGreatDoorU0
import Derived.Test.YtcfibfbenccimaaGreatDoorApp2
namespace Go.Proofs.YtcfibfbenccimaaGreatDoor
open Go.RowKit

theorem ins_end {q : Int} {xs : List Int} {k : Nat} (h : ∀ j, j < k → ∀ x, xs[j]? = some x → x < q) (hk : xs.length ≤ k) : insI q xs = xs.take k ++ [q] ++ xs.drop k := by
  rw [insI_pass h, List.drop_of_length_le hk]; simp [insI]
theorem ins_at {q x : Int} {xs : List Int} {k : Nat} (h : ∀ j, j < k → ∀ x, xs[j]? = some x → x < q) (hx : xs[k]? = some x) (h1 : ¬ x < q) (h2 : x ≠ q) : insI q xs = xs.take k ++ [q] ++ xs.drop k := by
  rw [insI_pass h, drop_cons_of hx, insI, if_neg h1, if_neg h2]; simp
theorem ins_same {q : Int} {xs : List Int} {k : Nat} (h : ∀ j, j < k → ∀ x, xs[j]? = some x → x < q) (hx : xs[k]? = some q) : insI q xs = xs := by
  rw [insI_pass h, drop_cons_of hx, insI, if_neg (by omega), if_pos rfl, ← drop_cons_of hx, List.take_append_drop]

set_option maxRecDepth 100000 in
set_option maxHeartbeats 4000000 in
theorem l1Put_any (lo : Nat) (A : Option Addr) (n c : Nat) (xs : List Int) (q : Int) (w : World) (hown : OwnI 3 w lo A n c xs) (hn : n ≤ 64) (hlo : lo ≤ w.heap.size) :
    Calls Tryz.prog 44 #[.slice A n c, .int .i64 q] w fun e w' => ∃ A' n' c', e = .returned (.slice A' n' c') ∧ OwnI 3 w' lo A' n' c' (insI q xs) ∧ Below w.heap.size w w' := by
  obtain ⟨i0, hi, hz0, hz1, hz2⟩ := info_parts infoI
  have HI := Lib.hid hi; have HZ0 := Lib.hid hz0; have HZ1 := Lib.hid hz1; have HZ2 := Lib.hid hz2
  clear hi hz0 hz1 hz2
  rcases hown.form with ⟨rfl, rfl, rfl, rfl⟩ | ⟨g, rfl, hg1, hg2, hnc, hcm⟩
  · clear hown
    go_enter Tryz.func44, Tryz.ntmps44
    go_wp2
    go_loopw [5] (fun s wr => s = .int .i64 0 ∧ wr = w) (fun _ _ => 0)
    case atStart => exact ⟨rfl, rfl⟩
    case round =>
      obtain ⟨rfl, rfl⟩ := hrel
      have OE := Lib.hid (show OwnI 3 (wr.alloc (.cells #[] 3)) wr.heap.size (some ⟨wr.heap.size, 0, none⟩) 0 0 [] from World.ownsRow_made (base := wr.heap.size) (e := 3) (size := 1) wr #[] 0 (Nat.le_refl _) (Nat.zero_le _) rfl)
      have BE := Lib.hid ((Below.refl wr.heap.size wr).alloc (Nat.le_refl _) (.cells #[] 3))
      have hs1 : wr.heap.size ≤ (wr.alloc (.cells #[] 3)).heap.size := by simp
      go_wp2_with (at_builtin; refine wpList_app1 rfl (.tmp 39) (.tmp 41) 22 3 rfl i0 Tryz.underlying22 HI.out HZ0.out HZ1.out HZ2.out wr.heap.size _ 0 _ [] q rfl OE.out (by go_simp) (by omega) hs1 ?_; intro A2 c2 w2 hown2 hb2; have O2 := Lib.hid hown2; have B2 := Lib.hid (BE.out.trans hb2); have hcp2 : 1 ≤ c2 := (by have := hown2.cap; omega); obtain ⟨g2, rfl, -, -⟩ := hown2.some_ (k := 0) (by omega); clear hown2 hb2)
      go_ret
      exact ⟨_, _, c2, rfl, O2.out.lower hlo, B2.out⟩
  · have OWN := Lib.hid hown
    have hl9 : n ≤ 9223372036854775807 := by omega
    go_enter Tryz.func44, Tryz.ntmps44
    clear hown hcm
    go_wp2
    go_loopw [5] (fun s wr => ∃ k : Nat, k ≤ n ∧ s = .int .i64 k ∧ (∀ j, j < k → ∀ x, xs[j]? = some x → x < q) ∧ w = wr) (fun s _ => n - (intOf s).toNat)
    case atStart => exact ⟨0, Nat.zero_le _, rfl, (fun j h => by omega), rfl⟩
    case round =>
      obtain ⟨k, hk, rfl, hlow, rfl⟩ := hrel
      have HLOW := Lib.hid hlow
      clear hlow
      by_cases hlt : k < n
      · obtain ⟨x, hx⟩ : ∃ x, xs[k]? = some x := ⟨_, List.getElem?_eq_getElem (show k < xs.length by have := OWN.out.len; omega)⟩
        have x0 := OWN.out.cell hx
        have HX := Lib.hid hx
        clear hx
        by_cases hxq : x < q
        · go_wp2
          go_roundw
          case rel => exact ⟨k + 1, by omega, by go_num, (fun j hj y hy => by
            rcases Nat.lt_or_eq_of_le (Nat.le_of_lt_succ hj) with h | h
            · exact HLOW.out j h y hy
            · subst h; rw [HX.out] at hy; injection hy with hy; omega), by trivial⟩
          case measure => simp [intOf]; omega
        · by_cases hxe : x = q
          · subst hxe
            have HS := Lib.hid (ins_same HLOW.out HX.out)
            go_wp2
            go_ret
            exact ⟨_, _, _, rfl, by rw [HS.out]; exact OWN.out, Below.refl _ _⟩
          · have hqe : (x == q) = false := by simpa using hxe
            have HINS := Lib.hid (ins_at HLOW.out HX.out hxq hxe)
            clear HLOW
            have hsw : w.heap.size ≤ (w.alloc (.cells #[] 3)).heap.size := by simp
            have OE := Lib.hid (show OwnI 3 (w.alloc (.cells #[] 3)) w.heap.size (some ⟨w.heap.size, 0, none⟩) 0 0 [] from World.ownsRow_made (base := w.heap.size) (e := 3) (size := 1) w #[] 0 (Nat.le_refl _) (Nat.zero_le _) rfl)
            have BE := Lib.hid ((Below.refl w.heap.size w).alloc (Nat.le_refl _) (.cells #[] 3))
            have RK := Lib.hid ((OWN.out.rd.take hk).alloc (.cells #[] 3))
            have hkc : (k : Int) ≤ (c : Int) := by have := OWN.out.cap; omega
            have hkn : (k : Int) ≤ (n : Int) := by omega
            have hnc : (n : Int) ≤ (c : Int) := by have := OWN.out.cap; omega
            have hck : ¬ c = k := by omega
            have RD := Lib.hid ((OWN.out.rd.drop hk))
            have hdl := RD.out.1
            go_wp2_with (first
              | (at_builtin; refine wpList_appN rfl (.tmp 34) (.tmp 37) 22 3 rfl i0 Tryz.underlying22 HI.out HZ0.out HZ1.out HZ2.out w.heap.size _ 0 0 [] ⟨g, 0, none⟩ k c (xs.take k) rfl OE.out rfl RK.out.1 (fun j y hj => RK.out.cell_ hj) (by omega) hsw ?_; intro A1 c1 w1 hown1 hb1; rw [Nat.zero_add, List.nil_append] at hown1; have O1 := Lib.hid hown1; have B1 := Lib.hid (BE.out.trans hb1); have hs1 := (BE.out.trans hb1).size; clear hown1 hb1)
              | (at_builtin; refine wpList_app1 rfl (.tmp 39) (.tmp 41) 22 3 rfl i0 Tryz.underlying22 HI.out HZ0.out HZ1.out HZ2.out w.heap.size A1 k c1 (xs.take k) q rfl O1.out rfl (by omega) hs1 ?_; intro A2 c2 w2 hown2 hb2; have O2 := Lib.hid hown2; have B2 := Lib.hid (B1.out.trans hb2); have hs2 := (B1.out.trans hb2).size; have R2 := Lib.hid (RD.out.keep (B1.out.trans hb2)); clear hown2 hb2)
              | (at_builtin; refine wpList_appN rfl (.tmp 43) (.tmp 46) 22 3 rfl i0 Tryz.underlying22 HI.out HZ0.out HZ1.out HZ2.out w.heap.size A2 (k + 1) c2 (xs.take k ++ [q]) ⟨g, 0 + k, none⟩ (n - k) _ (xs.drop k) rfl O2.out (by simp; rfl) R2.out.1 (fun j y hj => R2.out.cell_ hj) (by omega) hs2 ?_; intro A3 c3 w3 hown3 hb3; have O3 := Lib.hid hown3; have B3 := Lib.hid (B2.out.trans hb3); clear hown3 hb3))
            trace_state
            go_ret
            exact ⟨A3, _, c3, rfl, by rw [HINS.out]; exact (O3.out.lower hlo), B3.out⟩
      · have HINS := Lib.hid (ins_end HLOW.out (by have := OWN.out.len; omega))
        clear HLOW
        have hsw : w.heap.size ≤ (w.alloc (.cells #[] 3)).heap.size := by simp
        have OE := Lib.hid (show OwnI 3 (w.alloc (.cells #[] 3)) w.heap.size (some ⟨w.heap.size, 0, none⟩) 0 0 [] from World.ownsRow_made (base := w.heap.size) (e := 3) (size := 1) w #[] 0 (Nat.le_refl _) (Nat.zero_le _) rfl)
        have BE := Lib.hid ((Below.refl w.heap.size w).alloc (Nat.le_refl _) (.cells #[] 3))
        have RK := Lib.hid ((OWN.out.rd.take hk).alloc (.cells #[] 3))
        have hkc : (k : Int) ≤ (c : Int) := by have := OWN.out.cap; omega
        have hkn : (k : Int) ≤ (n : Int) := by omega
        have hnc : (n : Int) ≤ (c : Int) := by have := OWN.out.cap; omega
        by_cases hck : c = k
        · have HDR := Lib.hid (show xs.drop k = [] from List.drop_of_length_le (by have := OWN.out.len; have := OWN.out.cap; omega))
          subst hck
          go_wp2_with (first
            | (at_builtin; refine wpList_appN rfl (.tmp 34) (.tmp 37) 22 3 rfl i0 Tryz.underlying22 HI.out HZ0.out HZ1.out HZ2.out w.heap.size _ 0 0 [] ⟨g, 0, none⟩ c c (xs.take c) rfl OE.out rfl RK.out.1 (fun j y hj => RK.out.cell_ hj) (by omega) hsw ?_; intro A1 c1 w1 hown1 hb1; rw [Nat.zero_add, List.nil_append] at hown1; have O1 := Lib.hid hown1; have B1 := Lib.hid (BE.out.trans hb1); have hs1 := (BE.out.trans hb1).size; clear hown1 hb1)
            | (at_builtin; refine wpList_app1 rfl (.tmp 39) (.tmp 41) 22 3 rfl i0 Tryz.underlying22 HI.out HZ0.out HZ1.out HZ2.out w.heap.size A1 c c1 (xs.take c) q rfl O1.out rfl (by omega) hs1 ?_; intro A2 c2 w2 hown2 hb2; have O2 := Lib.hid hown2; have B2 := Lib.hid (B1.out.trans hb2); have hs2 := (B1.out.trans hb2).size; clear hown2 hb2)
            | (at_builtin; refine wpList_appN rfl (.tmp 43) (.tmp 46) 22 3 rfl i0 Tryz.underlying22 HI.out HZ0.out HZ1.out HZ2.out w.heap.size A2 (c + 1) c2 (xs.take c ++ [q]) ⟨g, 0, none⟩ 0 _ [] rfl O2.out rfl rfl (fun j y hj => by simp at hj) (by omega) hs2 ?_; intro A3 c3 w3 hown3 hb3; have O3 := Lib.hid hown3; have B3 := Lib.hid (B2.out.trans hb3); clear hown3 hb3))
          trace_state
          go_ret
          exact ⟨A3, _, c3, rfl, by rw [HINS.out, HDR.out]; exact (O3.out.lower hlo), B3.out⟩
        · have RD := Lib.hid ((OWN.out.rd.drop hk))
          have hdl := RD.out.1
          go_wp2_with (first
            | (at_builtin; refine wpList_appN rfl (.tmp 34) (.tmp 37) 22 3 rfl i0 Tryz.underlying22 HI.out HZ0.out HZ1.out HZ2.out w.heap.size _ 0 0 [] ⟨g, 0, none⟩ k c (xs.take k) rfl OE.out rfl RK.out.1 (fun j y hj => RK.out.cell_ hj) (by omega) hsw ?_; intro A1 c1 w1 hown1 hb1; rw [Nat.zero_add, List.nil_append] at hown1; have O1 := Lib.hid hown1; have B1 := Lib.hid (BE.out.trans hb1); have hs1 := (BE.out.trans hb1).size; clear hown1 hb1)
            | (at_builtin; refine wpList_app1 rfl (.tmp 39) (.tmp 41) 22 3 rfl i0 Tryz.underlying22 HI.out HZ0.out HZ1.out HZ2.out w.heap.size A1 k c1 (xs.take k) q rfl O1.out rfl (by omega) hs1 ?_; intro A2 c2 w2 hown2 hb2; have O2 := Lib.hid hown2; have B2 := Lib.hid (B1.out.trans hb2); have hs2 := (B1.out.trans hb2).size; have R2 := Lib.hid (RD.out.keep (B1.out.trans hb2)); clear hown2 hb2)
            | (at_builtin; refine wpList_appN rfl (.tmp 43) (.tmp 46) 22 3 rfl i0 Tryz.underlying22 HI.out HZ0.out HZ1.out HZ2.out w.heap.size A2 (k + 1) c2 (xs.take k ++ [q]) ⟨g, 0 + k, none⟩ (n - k) _ (xs.drop k) rfl O2.out (by simp; rfl) R2.out.1 (fun j y hj => R2.out.cell_ hj) (by omega) hs2 ?_; intro A3 c3 w3 hown3 hb3; have O3 := Lib.hid hown3; have B3 := Lib.hid (B2.out.trans hb3); clear hown3 hb3))
          trace_state
          go_ret
          exact ⟨A3, _, c3, rfl, by rw [HINS.out]; exact (O3.out.lower hlo), B3.out⟩

end Go.Proofs.YtcfibfbenccimaaGreatDoor
