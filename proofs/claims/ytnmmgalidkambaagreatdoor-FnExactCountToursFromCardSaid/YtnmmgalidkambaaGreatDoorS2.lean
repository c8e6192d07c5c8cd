/-
  Contracts: slices.Compact at spots.
-/
import Derived.Test.YtnmmgalidkambaaGreatDoorMem2
import Derived.Test.YtnmmgalidkambaaGreatDoorB6
import Derived.Lib.SlicesCompact
import Derived.Laws.StructEq
namespace Go.Proofs.YtnmmgalidkambaaGreatDoor
open Go.RowKit

theorem pair_at {E : TypeId} {w : World} {lo g n c : Nat} {xs : List (Int × Int)} (h : OwnP E w lo (some ⟨g, 0, none⟩) n c xs) {i : Nat} {p : Int × Int} (hx : xs[i]? = some p) :
    w.cell? ⟨g, i * 2, none⟩ = some (.int .i64 p.1) ∧ w.cell? ⟨g, i * 2 + 1, none⟩ = some (.int .i64 p.2) :=
  ⟨OwnK.cell (j := 0) encP_len h hx rfl, OwnK.cell (j := 1) encP_len h hx rfl⟩
theorem arr_at {d : Array (Int × Int)} {i : Nat} (h : i < d.size) : d.toList[i]? = some d[i]! := by
  rw [Array.getElem?_toList, Array.getElem?_eq_getElem h, getElem!_pos d i h]

theorem eq_spot (x y a b : Int) (w : World) : Sem.run Tryz.prog (binOp .eql 90 (.agg #[.int .i64 x, .int .i64 y]) (.agg #[.int .i64 a, .int .i64 b])) w = .ok (.bool (x == a && y == b)) w := by
  have u3 := Tryz.underlying3
  have a3 := Tryz.isAgg3
  have z3 := Tryz.sizeOf3
  have hS : Tryz.prog.underlying 90 = some (.struct (Tryz.prog.fieldsOf 90)) := by kernel_rfl
  have hp : Tryz.prog.stoodInHeld 90 = false := by kernel_rfl
  rw [run_eql_struct, show (10000 : Nat) = 9999 + 1 from rfl, run_equalIn_agg w 9999 90 _ _ hS hp]
  simp only [Program.fieldsOf, Tryz.underlying90]
  go_simp
  by_cases h1 : x = a <;> by_cases h2 : y = b <;> simp [h1, h2]
theorem neq_spot (x y a b : Int) (w : World) : Sem.run Tryz.prog (binOp .neq 90 (.agg #[.int .i64 x, .int .i64 y]) (.agg #[.int .i64 a, .int .i64 b])) w = .ok (.bool (!(x == a && y == b))) w := by
  have u3 := Tryz.underlying3
  have a3 := Tryz.isAgg3
  have z3 := Tryz.sizeOf3
  have hS : Tryz.prog.underlying 90 = some (.struct (Tryz.prog.fieldsOf 90)) := by kernel_rfl
  have hp : Tryz.prog.stoodInHeld 90 = false := by kernel_rfl
  rw [run_neq_struct, show (10000 : Nat) = 9999 + 1 from rfl, run_equalIn_agg w 9999 90 _ _ hS hp]
  simp only [Program.fieldsOf, Tryz.underlying90]
  go_simp
  by_cases h1 : x = a <;> by_cases h2 : y = b <;> simp [h1, h2]
theorem guard_spot (op : BinOp) (u v : Operand) (xs ys : Array Value) (w : World) : Sem.run Tryz.prog (eqGuard op 90 u v (.agg xs) (.agg ys)) w = .ok () w := run_eqGuard_agg w op _ u v xs ys (by kernel_rfl)

set_option maxRecDepth 100000 in
set_option maxHeartbeats 1000000 in
theorem compact_any (lo g c N : Nat) (d : Array (Int × Int)) (w : World) (hown : OwnP 90 w lo (some ⟨g, 0, none⟩) N c d.toList) (hN : d.size = N) (h2 : 2 ≤ N) (hsz : N ≤ 1000) (hc : N ≤ c) :
    Calls Tryz.prog 100 #[.slice (some ⟨g, 0, none⟩) N c] w fun e w' => ∃ n', e = .returned (.slice (some ⟨g, 0, none⟩) n' c) ∧ OwnP 90 w' lo (some ⟨g, 0, none⟩) n' c (Lib.compactUpTo d d.size) ∧ w.grownBy w' (some g) := by
  have HN := Lib.hid hN
  have HO := Lib.hid hown
  clear hN hown
  go_enter Tryz.func100, Tryz.ntmps100
  go_wp2
  go_loopw [3] (fun s3 wr => ∃ m : Nat, m + 1 ≤ N ∧ s3 = .int .i64 ((m : Int) + 1) ∧ OwnP 90 wr lo (some ⟨g, 0, none⟩) N c d.toList ∧ w.grownBy wr (some g) ∧ (∀ j, j < m + 1 → Lib.keeps d j = true)) (fun s3 _ => N - (intOf s3).toNat)
  case atStart => exact ⟨0, by omega, rfl, HO.out, grown_refl _ _, Lib.keeps_lt_one d⟩
  case round =>
    obtain ⟨m, hm, rfl, hown, hg, hall⟩ := hrel
    have HA := Lib.hid hall; have HG := Lib.hid hg
    clear hall hg HO
    by_cases hlt : m + 1 < N
    · obtain ⟨x0, x1⟩ := pair_at hown (arr_at (d := d) (i := m + 1) (by have := HN.out; omega))
      obtain ⟨y0, y1⟩ := pair_at hown (arr_at (d := d) (i := m) (by have := HN.out; omega))
      have HO := Lib.hid hown
      clear hown
      obtain ⟨⟨xa, xb⟩, hx⟩ : ∃ x, d[m + 1]! = x := ⟨_, rfl⟩
      obtain ⟨⟨ya, yb⟩, hy⟩ : ∃ x, d[m]! = x := ⟨_, rfl⟩
      rw [hx] at x0 x1; rw [hy] at y0 y1
      simp only at x0 x1 y0 y1
      have HX := Lib.hid hx; have HY := Lib.hid hy
      clear hx hy
      have hi1 : (m : Int) + 1 < (N : Int) := by omega
      have hi0 : (0 : Int) ≤ (m : Int) + 1 := by omega
      have hgd := fun (w' : World) (u v : Operand) => guard_spot .eql u v #[.int .i64 xa, .int .i64 xb] #[.int .i64 ya, .int .i64 yb] w'
      cases hdp : (xa == ya && xb == yb) with
      | true =>
        have he := fun w' : World => hdp ▸ eq_spot xa xb ya yb w'
        have HK : Hid (Lib.keeps d (m + 1) = false) := Lib.hid (Lib.keeps_neg (by omega) (by rw [HX.out, Nat.add_sub_cancel, HY.out]; simp at hdp; rw [hdp.1, hdp.2]))
        clear hdp
        go_wp2
        go_region
        go_wp2
        clear he hgd x0 x1 y0 y1
        go_loopw [3, 5] (fun s3 s5 wx => ∃ (kk k2 : Nat) (dk : Array (Int × Int)), s3 = .int .i64 kk ∧ s5 = .int .i64 ((k2 : Int) + 1) ∧ m + 1 + (k2 + 1) ≤ N ∧ OwnP 90 wx lo (some ⟨g, 0, none⟩) N c dk.toList ∧ w.grownBy wx (some g) ∧ Lib.CompInv d (m + 1 + (k2 + 1)) kk dk) (fun _ s5 _ => N - (intOf s5).toNat)
        case atStart => exact ⟨m + 1, 0, d, by go_num, rfl, by omega, HO.out.drew1, grown_drewN HG.out 1, Lib.CompInv.start HA.out HK.out⟩
        case round =>
          obtain ⟨kk, k2, dk, rfl, rfl, hle, hown, hg, hI⟩ := hrel
          have hkk := hI.lt
          have HDS := Lib.hid hI.size
          clear HO
          by_cases hlt2 : m + 1 + (k2 + 1) < N
          · have HI := Lib.hid hI; have HG2 := Lib.hid hg
            obtain ⟨u0, u1⟩ := pair_at hown (arr_at (d := dk) (i := m + 1 + (k2 + 1)) (by have := HN.out; have := HDS.out; omega))
            obtain ⟨v0, v1⟩ := pair_at hown (arr_at (d := dk) (i := m + 1 + k2) (by have := HN.out; have := HDS.out; omega))
            obtain ⟨t0, t1⟩ := pair_at hown (arr_at (d := dk) (i := kk) (by have := HN.out; have := HDS.out; omega))
            have f0 := hown.frozen (kk * 2); have f1 := hown.frozen (kk * 2 + 1)
            rw [hI.high _ (by omega), show (m + 1 + (k2 + 1)) * 2 = (m + 1) * 2 + (k2 + 1) * 2 by omega] at u0 u1
            rw [hI.high _ (by omega), show (m + 1 + k2) * 2 = (m + 1) * 2 + k2 * 2 by omega] at v0 v1
            have HO := Lib.hid hown
            clear hown hI hg
            obtain ⟨⟨ua, ub⟩, hu⟩ : ∃ x, d[m + 1 + (k2 + 1)]! = x := ⟨_, rfl⟩
            obtain ⟨⟨va, vb⟩, hv⟩ : ∃ x, d[m + 1 + k2]! = x := ⟨_, rfl⟩
            obtain ⟨⟨ta, tb⟩, ht⟩ : ∃ x, dk[kk]! = x := ⟨_, rfl⟩
            rw [hu] at u0 u1; rw [hv] at v0 v1; rw [ht] at t0 t1
            simp only at u0 u1 v0 v1 t0 t1
            have HU := Lib.hid hu; have HV := Lib.hid hv
            clear hu hv ht
            have hj0 : (0 : Int) ≤ (k2 : Int) + 1 := by omega
            have hj1 : (k2 : Int) + 1 < ((N - (m + 1) : Nat) : Int) := by omega
            have hk1 : (kk : Int) < (N : Int) := by omega
            have hgd2 := fun (w' : World) (u v : Operand) => guard_spot .neq u v #[.int .i64 ua, .int .i64 ub] #[.int .i64 va, .int .i64 vb] w'
            cases hdp2 : (ua == va && ub == vb) with
            | true =>
              have he2 : ∀ w' : World, _ := fun w' => hdp2 ▸ neq_spot ua ub va vb w'
              have HK2 : Hid (Lib.keeps d (m + 1 + (k2 + 1)) = false) := Lib.hid (Lib.keeps_neg (by omega) (by rw [HU.out, show m + 1 + (k2 + 1) - 1 = m + 1 + k2 by omega, HV.out]; simp at hdp2; rw [hdp2.1, hdp2.2]))
              clear hdp2
              go_wp2
              go_region
              go_wp2
              go_roundw
              case rel => exact ⟨kk, k2 + 1, dk, rfl, by go_num, by omega, HO.out.drew1, grown_drewN HG2.out 1, HI.out.skip HK2.out⟩
              case measure => simp [intOf]; omega
            | false =>
              have he2 : ∀ w' : World, _ := fun w' => hdp2 ▸ neq_spot ua ub va vb w'
              have HK2 : Hid (Lib.keeps d (m + 1 + (k2 + 1)) = true) := Lib.hid (Lib.keeps_pos (by rw [HU.out, show m + 1 + (k2 + 1) - 1 = m + 1 + k2 by omega, HV.out]; intro h; injection h with h1 h2; rw [h1, h2] at hdp2; simp at hdp2))
              clear hdp2
              go_wp2
              go_region
              go_wp2
              go_roundw
              case rel =>
                have hs := HO.out.stored (i := kk) (by omega) (ua, ub)
                have hk := HI.out.keep (by have := HN.out; omega) HK2.out
                rw [HU.out] at hk
                exact ⟨kk + 1, k2 + 1, dk.setIfInBounds kk (ua, ub), by go_num, by go_num, by omega, by rw [Array.toList_setIfInBounds]; exact hs.1.drew1, grown_drewN (grown_next HG2.out hs.2) 1, hk⟩
              case measure => simp [intOf]; omega
          · have hend : m + 1 + (k2 + 1) = N := by omega
            have hnlt : ¬ (k2 : Int) + 1 < ((N - (m + 1) : Nat) : Int) := by omega
            have hz : ∀ w', (zeroValue 90).run Tryz.prog w' = .ok (.agg #[.int .i64 0, .int .i64 0]) w' := fun _ => by kernel_rfl
            have hcl : ∀ ty, (Builtin.clear_ #[105] ty #[.slice (some ⟨g, kk * 2, none⟩) (N - kk) (c - kk)]).run Tryz.prog wr = .ok (.tuple #[]) (wr.setCells g (kk * 2) (List.replicate ((N - kk) * 2) (.int .i64 0))) := fun ty =>
              run_clear_pairs wr _ _ ty Tryz.underlying105 hz g (kk * 2) (N - kk) (c - kk) (by omega)
                (fun j hj => by
                  have hi : kk + j / 2 < dk.size := by have := HN.out; have := HDS.out; omega
                  obtain ⟨p0, p1⟩ := pair_at hown (arr_at hi)
                  have : j % 2 = 0 ∨ j % 2 = 1 := by omega
                  rcases this with e | e
                  · rw [show kk * 2 + j = (kk + j / 2) * 2 by omega, p0]; rfl
                  · rw [show kk * 2 + j = (kk + j / 2) * 2 + 1 by omega, p1]; rfl)
                (fun j hj => hown.frozen _)
            have HI := Lib.hid hI; have HG2 := Lib.hid hg; have HO := Lib.hid hown
            clear hI hg hown hz
            go_wp2
            go_ret
            have hI := HI.out
            rw [hend] at hI
            have hcut := HO.out.cut encP_len (m := kk) (by omega)
            have hcb := OwnK.cells_behind (List.replicate ((N - kk) * 2) (.int .i64 0)) (kk * 2) encP_len hcut (Nat.le_refl _)
            have e : dk.toList.take kk = Lib.compactUpTo d d.size := by
              apply List.ext_getElem?
              intro j
              rw [HN.out]
              by_cases hj : j < kk
              · rw [List.getElem?_take_of_lt hj, hI.low j hj, arr_at (by have := HN.out; have := HDS.out; omega)]
              · rw [List.getElem?_eq_none (by rw [List.length_take]; omega), List.getElem?_eq_none (by rw [hI.len]; omega)]
            exact ⟨kk, rfl, by rw [← e]; exact hcb.1, grown_next HG2.out hcb.2⟩
      | false =>
        have he := fun w' : World => hdp ▸ eq_spot xa xb ya yb w'
        have HK : Hid (Lib.keeps d (m + 1) = true) := Lib.hid (Lib.keeps_pos (by rw [HX.out, Nat.add_sub_cancel, HY.out]; intro h; injection h with h1 h2; rw [h1, h2] at hdp; simp at hdp))
        clear hdp
        go_wp2
        go_region
        go_wp2
        go_roundw
        case rel => exact ⟨m + 1, by omega, by go_num, HO.out.drew1, grown_drewN HG.out 1, fun j hj => by
          by_cases e : j = m + 1
          · subst e; exact HK.out
          · exact HA.out j (by omega)⟩
        case measure => simp [intOf]; omega
    · go_wp2
      go_ret
      exact ⟨N, rfl, by rw [HN.out, Lib.compactUpTo_all d N (fun j hj => HA.out j (by omega)), ← HN.out, Lib.range_map_get, HN.out]; exact hown, HG.out⟩

end Go.Proofs.YtnmmgalidkambaaGreatDoor
