/-
  Contracts: slices.Compact at spots.
  Contracts: the steps of a leaper, in the program.
  Contracts: the steps of a leaper, in the program.
  Contracts: whether a spot is there.
  Contracts: the leaps from a cell, in the program.
  Contracts: the cells to which a leaper leaps, in the program, in order.
  Steps of regions that append (U0), with what stands ahead of them.
  Contracts: the cells to which a leaper leaps, in the program, in order.
-/
import Derived.Test.YtjplcnbifcpebaaGreatDoorBunHFillPeaceful3
import Derived.Test.YtjplcnbifcpebaaGreatDoorBunHFillPeaceful2
import Derived.Lib.SlicesCompact
import Derived.Laws.StructEq
import Derived.Shelf.SlSortCmp.WholeK
import Derived.Deep.RegionHeld3
import Derived.Deep.RegionWith
import Derived.Deep.DeepCutAuto
import Derived.Test.YtjplcnbifcpebaaGreatDoorBunHFillPeaceful1
import Derived.Sort.OwnSortedInts
namespace Go.Proofs.YtjplcnbifcpebaaGreatDoor
open Go.RowKit

theorem pair_at {E : TypeId} {w : World} {lo g n c : Nat} {xs : List (Int × Int)} (h : OwnP E w lo (some ⟨g, 0, none⟩) n c xs) {i : Nat} {p : Int × Int} (hx : xs[i]? = some p) :
    w.cell? ⟨g, i * 2, none⟩ = some (.int .i64 p.1) ∧ w.cell? ⟨g, i * 2 + 1, none⟩ = some (.int .i64 p.2) :=
  ⟨OwnK.cell (j := 0) encP_len h hx rfl, OwnK.cell (j := 1) encP_len h hx rfl⟩
theorem arr_at {d : Array (Int × Int)} {i : Nat} (h : i < d.size) : d.toList[i]? = some d[i]! := by
  rw [Array.getElem?_toList, Array.getElem?_eq_getElem h, getElem!_pos d i h]

theorem eq_spot (x y a b : Int) (w : World) : Sem.run Tryz.prog (binOp .eql 72 (.agg #[.int .i64 x, .int .i64 y]) (.agg #[.int .i64 a, .int .i64 b])) w = .ok (.bool (x == a && y == b)) w := by
  have u3 := Tryz.underlying3
  have a3 := Tryz.isAgg3
  have z3 := Tryz.sizeOf3
  have hS : Tryz.prog.underlying 72 = some (.struct (Tryz.prog.fieldsOf 72)) := by kernel_rfl
  have hp : Tryz.prog.stoodInHeld 72 = false := by kernel_rfl
  rw [run_eql_struct, show (10000 : Nat) = 9999 + 1 from rfl, run_equalIn_agg w 9999 72 _ _ hS hp]
  simp only [Program.fieldsOf, Tryz.underlying72]
  go_simp
  by_cases h1 : x = a <;> by_cases h2 : y = b <;> simp [h1, h2]
theorem neq_spot (x y a b : Int) (w : World) : Sem.run Tryz.prog (binOp .neq 72 (.agg #[.int .i64 x, .int .i64 y]) (.agg #[.int .i64 a, .int .i64 b])) w = .ok (.bool (!(x == a && y == b))) w := by
  have u3 := Tryz.underlying3
  have a3 := Tryz.isAgg3
  have z3 := Tryz.sizeOf3
  have hS : Tryz.prog.underlying 72 = some (.struct (Tryz.prog.fieldsOf 72)) := by kernel_rfl
  have hp : Tryz.prog.stoodInHeld 72 = false := by kernel_rfl
  rw [run_neq_struct, show (10000 : Nat) = 9999 + 1 from rfl, run_equalIn_agg w 9999 72 _ _ hS hp]
  simp only [Program.fieldsOf, Tryz.underlying72]
  go_simp
  by_cases h1 : x = a <;> by_cases h2 : y = b <;> simp [h1, h2]
theorem guard_spot (op : BinOp) (u v : Operand) (xs ys : Array Value) (w : World) : Sem.run Tryz.prog (eqGuard op 72 u v (.agg xs) (.agg ys)) w = .ok () w := run_eqGuard_agg w op _ u v xs ys (by kernel_rfl)

set_option maxRecDepth 100000 in
set_option maxHeartbeats 1000000 in
theorem compact_any (lo g c N : Nat) (d : Array (Int × Int)) (w : World) (hown : OwnP 72 w lo (some ⟨g, 0, none⟩) N c d.toList) (hN : d.size = N) (h2 : 2 ≤ N) (hsz : N ≤ 1000) (hc : N ≤ c) :
    Calls Tryz.prog 70 #[.slice (some ⟨g, 0, none⟩) N c] w fun e w' => ∃ n', e = .returned (.slice (some ⟨g, 0, none⟩) n' c) ∧ OwnP 72 w' lo (some ⟨g, 0, none⟩) n' c (Lib.compactUpTo d d.size) ∧ w.grownBy w' (some g) := by
  have HN := Lib.hid hN
  have HO := Lib.hid hown
  clear hN hown
  go_enter Tryz.func70, Tryz.ntmps70
  go_wp2
  go_loopw [3] (fun s3 wr => ∃ m : Nat, m + 1 ≤ N ∧ s3 = .int .i64 ((m : Int) + 1) ∧ OwnP 72 wr lo (some ⟨g, 0, none⟩) N c d.toList ∧ w.grownBy wr (some g) ∧ (∀ j, j < m + 1 → Lib.keeps d j = true)) (fun s3 _ => N - (intOf s3).toNat)
  case atStart => exact ⟨0, by omega, rfl, HO.out, grown_refl _ _, Lib.keeps_lt_one d⟩
  case round =>
    obtain ⟨m, hm, rfl, hown, hg, hall⟩ := hrel
    have HA := Lib.hid hall; have HG := Lib.hid hg
    clear hall hg HO
    by_cases hlt : m + 1 < N
    · obtain ⟨x0, x1⟩ := pair_at hown (arr_at (d := d) (i := m + 1) (by have := HN.out; omega))
      obtain ⟨y0, y1⟩ := pair_at hown (arr_at (d := d) (i := m) (by have := HN.out; omega))
      have HO := Lib.hid hown
      clear hown
      obtain ⟨⟨xa, xb⟩, hx⟩ : ∃ x, d[m + 1]! = x := ⟨_, rfl⟩
      obtain ⟨⟨ya, yb⟩, hy⟩ : ∃ x, d[m]! = x := ⟨_, rfl⟩
      rw [hx] at x0 x1; rw [hy] at y0 y1
      simp only at x0 x1 y0 y1
      have HX := Lib.hid hx; have HY := Lib.hid hy
      clear hx hy
      have hi1 : (m : Int) + 1 < (N : Int) := by omega
      have hi0 : (0 : Int) ≤ (m : Int) + 1 := by omega
      have hgd := fun (w' : World) (u v : Operand) => guard_spot .eql u v #[.int .i64 xa, .int .i64 xb] #[.int .i64 ya, .int .i64 yb] w'
      cases hdp : (xa == ya && xb == yb) with
      | true =>
        have he := fun w' : World => hdp ▸ eq_spot xa xb ya yb w'
        have HK : Hid (Lib.keeps d (m + 1) = false) := Lib.hid (Lib.keeps_neg (by omega) (by rw [HX.out, Nat.add_sub_cancel, HY.out]; simp at hdp; rw [hdp.1, hdp.2]))
        clear hdp
        go_wp2
        go_region
        go_wp2
        clear he hgd x0 x1 y0 y1
        go_loopw [3, 5] (fun s3 s5 wx => ∃ (kk k2 : Nat) (dk : Array (Int × Int)), s3 = .int .i64 kk ∧ s5 = .int .i64 ((k2 : Int) + 1) ∧ m + 1 + (k2 + 1) ≤ N ∧ OwnP 72 wx lo (some ⟨g, 0, none⟩) N c dk.toList ∧ w.grownBy wx (some g) ∧ Lib.CompInv d (m + 1 + (k2 + 1)) kk dk) (fun _ s5 _ => N - (intOf s5).toNat)
        case atStart => exact ⟨m + 1, 0, d, by go_num, rfl, by omega, HO.out.drew1, grown_drewN HG.out 1, Lib.CompInv.start HA.out HK.out⟩
        case round =>
          obtain ⟨kk, k2, dk, rfl, rfl, hle, hown, hg, hI⟩ := hrel
          have hkk := hI.lt
          have HDS := Lib.hid hI.size
          clear HO
          by_cases hlt2 : m + 1 + (k2 + 1) < N
          · have HI := Lib.hid hI; have HG2 := Lib.hid hg
            obtain ⟨u0, u1⟩ := pair_at hown (arr_at (d := dk) (i := m + 1 + (k2 + 1)) (by have := HN.out; have := HDS.out; omega))
            obtain ⟨v0, v1⟩ := pair_at hown (arr_at (d := dk) (i := m + 1 + k2) (by have := HN.out; have := HDS.out; omega))
            obtain ⟨t0, t1⟩ := pair_at hown (arr_at (d := dk) (i := kk) (by have := HN.out; have := HDS.out; omega))
            have f0 := hown.frozen (kk * 2); have f1 := hown.frozen (kk * 2 + 1)
            rw [hI.high _ (by omega), show (m + 1 + (k2 + 1)) * 2 = (m + 1) * 2 + (k2 + 1) * 2 by omega] at u0 u1
            rw [hI.high _ (by omega), show (m + 1 + k2) * 2 = (m + 1) * 2 + k2 * 2 by omega] at v0 v1
            have HO := Lib.hid hown
            clear hown hI hg
            obtain ⟨⟨ua, ub⟩, hu⟩ : ∃ x, d[m + 1 + (k2 + 1)]! = x := ⟨_, rfl⟩
            obtain ⟨⟨va, vb⟩, hv⟩ : ∃ x, d[m + 1 + k2]! = x := ⟨_, rfl⟩
            obtain ⟨⟨ta, tb⟩, ht⟩ : ∃ x, dk[kk]! = x := ⟨_, rfl⟩
            rw [hu] at u0 u1; rw [hv] at v0 v1; rw [ht] at t0 t1
            simp only at u0 u1 v0 v1 t0 t1
            have HU := Lib.hid hu; have HV := Lib.hid hv
            clear hu hv ht
            have hj0 : (0 : Int) ≤ (k2 : Int) + 1 := by omega
            have hj1 : (k2 : Int) + 1 < ((N - (m + 1) : Nat) : Int) := by omega
            have hk1 : (kk : Int) < (N : Int) := by omega
            have hgd2 := fun (w' : World) (u v : Operand) => guard_spot .neq u v #[.int .i64 ua, .int .i64 ub] #[.int .i64 va, .int .i64 vb] w'
            cases hdp2 : (ua == va && ub == vb) with
            | true =>
              have he2 : ∀ w' : World, _ := fun w' => hdp2 ▸ neq_spot ua ub va vb w'
              have HK2 : Hid (Lib.keeps d (m + 1 + (k2 + 1)) = false) := Lib.hid (Lib.keeps_neg (by omega) (by rw [HU.out, show m + 1 + (k2 + 1) - 1 = m + 1 + k2 by omega, HV.out]; simp at hdp2; rw [hdp2.1, hdp2.2]))
              clear hdp2
              go_wp2
              go_region
              go_wp2
              go_roundw
              case rel => exact ⟨kk, k2 + 1, dk, rfl, by go_num, by omega, HO.out.drew1, grown_drewN HG2.out 1, HI.out.skip HK2.out⟩
              case measure => simp [intOf]; omega
            | false =>
              have he2 : ∀ w' : World, _ := fun w' => hdp2 ▸ neq_spot ua ub va vb w'
              have HK2 : Hid (Lib.keeps d (m + 1 + (k2 + 1)) = true) := Lib.hid (Lib.keeps_pos (by rw [HU.out, show m + 1 + (k2 + 1) - 1 = m + 1 + k2 by omega, HV.out]; intro h; injection h with h1 h2; rw [h1, h2] at hdp2; simp at hdp2))
              clear hdp2
              go_wp2
              go_region
              go_wp2
              go_roundw
              case rel =>
                have hs := HO.out.stored (i := kk) (by omega) (ua, ub)
                have hk := HI.out.keep (by have := HN.out; omega) HK2.out
                rw [HU.out] at hk
                exact ⟨kk + 1, k2 + 1, dk.setIfInBounds kk (ua, ub), by go_num, by go_num, by omega, by rw [Array.toList_setIfInBounds]; exact hs.1.drew1, grown_drewN (grown_next HG2.out hs.2) 1, hk⟩
              case measure => simp [intOf]; omega
          · have hend : m + 1 + (k2 + 1) = N := by omega
            have hnlt : ¬ (k2 : Int) + 1 < ((N - (m + 1) : Nat) : Int) := by omega
            have hz : ∀ w', (zeroValue 72).run Tryz.prog w' = .ok (.agg #[.int .i64 0, .int .i64 0]) w' := fun _ => by kernel_rfl
            have hcl : ∀ ty, (Builtin.clear_ #[85] ty #[.slice (some ⟨g, kk * 2, none⟩) (N - kk) (c - kk)]).run Tryz.prog wr = .ok (.tuple #[]) (wr.setCells g (kk * 2) (List.replicate ((N - kk) * 2) (.int .i64 0))) := fun ty =>
              run_clear_pairs wr _ _ ty Tryz.underlying85 hz g (kk * 2) (N - kk) (c - kk) (by omega)
                (fun j hj => by
                  have hi : kk + j / 2 < dk.size := by have := HN.out; have := HDS.out; omega
                  obtain ⟨p0, p1⟩ := pair_at hown (arr_at hi)
                  have : j % 2 = 0 ∨ j % 2 = 1 := by omega
                  rcases this with e | e
                  · rw [show kk * 2 + j = (kk + j / 2) * 2 by omega, p0]; rfl
                  · rw [show kk * 2 + j = (kk + j / 2) * 2 + 1 by omega, p1]; rfl)
                (fun j hj => hown.frozen _)
            have HI := Lib.hid hI; have HG2 := Lib.hid hg; have HO := Lib.hid hown
            clear hI hg hown hz
            go_wp2
            go_ret
            have hI := HI.out
            rw [hend] at hI
            have hcut := HO.out.cut encP_len (m := kk) (by omega)
            have hcb := OwnK.cells_behind (List.replicate ((N - kk) * 2) (.int .i64 0)) (kk * 2) encP_len hcut (Nat.le_refl _)
            have e : dk.toList.take kk = Lib.compactUpTo d d.size := by
              apply List.ext_getElem?
              intro j
              rw [HN.out]
              by_cases hj : j < kk
              · rw [List.getElem?_take_of_lt hj, hI.low j hj, arr_at (by have := HN.out; have := HDS.out; omega)]
              · rw [List.getElem?_eq_none (by rw [List.length_take]; omega), List.getElem?_eq_none (by rw [hI.len]; omega)]
            exact ⟨kk, rfl, by rw [← e]; exact hcb.1, grown_next HG2.out hcb.2⟩
      | false =>
        have he := fun w' : World => hdp ▸ eq_spot xa xb ya yb w'
        have HK : Hid (Lib.keeps d (m + 1) = true) := Lib.hid (Lib.keeps_pos (by rw [HX.out, Nat.add_sub_cancel, HY.out]; intro h; injection h with h1 h2; rw [h1, h2] at hdp; simp at hdp))
        clear hdp
        go_wp2
        go_region
        go_wp2
        go_roundw
        case rel => exact ⟨m + 1, by omega, by go_num, HO.out.drew1, grown_drewN HG.out 1, fun j hj => by
          by_cases e : j = m + 1
          · subst e; exact HK.out
          · exact HA.out j (by omega)⟩
        case measure => simp [intOf]; omega
    · go_wp2
      go_ret
      exact ⟨N, rfl, by rw [HN.out, Lib.compactUpTo_all d N (fun j hj => HA.out j (by omega)), ← HN.out, Lib.range_map_get, HN.out]; exact hown, HG.out⟩

end Go.Proofs.YtjplcnbifcpebaaGreatDoor

namespace Go.Proofs.YtjplcnbifcpebaaGreatDoor
open Go.RowKit

theorem ltOf_cmpP (p q : Int × Int) : ltOf cmpP p q = lexB p q := by
  unfold ltOf cmpP Lib.compareInt lexB
  rw [Bool.eq_iff_iff, decide_eq_true_eq, decide_eq_true_eq]
  repeat' split
  all_goals omega
theorem swo_cmpP : Go.Sort.SWO (ltOf cmpP) where
  irrefl p := by rw [ltOf_cmpP]; simp [lexB]
  trans p q r h1 h2 := by rw [ltOf_cmpP] at *; rw [lexB_iff] at *; omega
  ntrans p q r h1 h2 := by
    rw [ltOf_cmpP] at *
    rw [Bool.eq_false_iff, Ne, lexB_iff] at *
    omega

set_option maxHeartbeats 1000000 in
theorem sortSpot_any (lo g c n : Nat) (xs : List (Int × Int)) (w : World) (hown : OwnP 72 w lo (some ⟨g, 0, none⟩) n c xs) (hn : n ≤ 1000000) :
    Calls Tryz.prog 68 #[.slice (some ⟨g, 0, none⟩) n c, .func (.func 69) #[] #[]] w fun e w' =>
      e = .returned (.tuple #[]) ∧ OwnP 72 w' lo (some ⟨g, 0, none⟩) n c (sortL xs) ∧ w.grownBy w' (some g) := by
  have eg : ∀ args w, (callFunc 69 args).run Tryz.prog w = .ok (.enter 69 args) w := enters_of Tryz.func69 (by kernel_rfl) rfl
  have hlt : g < w.heap.size := by
    rcases hown.form with ⟨h, _⟩ | ⟨g', h, _, h2, _⟩
    · cases h
    · injection h with h; injection h with h; rw [h]; exact h2
  have hsz : xs.toArray.size = n := by simpa using hown.1
  have hcon := AnyQ.slices_SortFunc Tryz.sortSpot 2 (fun _ => by kernel_rfl) (fun _ => by kernel_rfl) encP encP_len encP_one cmpP swo_cmpP 69 #[] g 0 c xs.toArray w eg (fun _ _ _ _ x y => compare_any x y _) (hown.holds encP_len) hlt (by rw [hsz]; omega)
  change Calls Tryz.prog 68 _ _ _ at hcon
  rw [hsz] at hcon
  refine hcon.mono ?_
  rintro e w' ⟨rfl, d, m, os, hp, hs, rfl⟩
  have hd : d.size = n := hp.1.trans hsz
  obtain ⟨h1, h2⟩ := hown.sorted encP_len d hd m os
  have e1 : d.toList.Perm xs := by
    have := hp.2.2
    rw [Array.extract_eq_self_of_le (by omega), Array.extract_eq_self_of_le (by omega)] at this
    simpa using this
  have e2 : d.toList.Pairwise lexLe := by
    rw [List.pairwise_iff_getElem]
    intro i j hi hj hij
    have h := hs i j (Nat.zero_le _) hij (by rw [← hd]; simpa using hj)
    rw [ltOf_cmpP, getElem!_pos d j (by simpa using hj), getElem!_pos d i (by simpa using hi)] at h
    exact h
  have e3 : d.toList = sortL xs := sorted_unique (e1.trans (sort_perm xs).symm) e2 (sort_sorted xs)
  rw [e3] at h1
  exact ⟨rfl, h1, h2⟩

/-- append of some elements, laid in a new block, onto a row of the call's own. -/
theorem wpList_appKn {α : Type} {enc : α → List Value} {k : Nat} {E : TypeId} {P : Program} {w : World} {ops : Array Oper} {rest : List Oper} {o : Oper} {a : Act} {Q : Exit → Act → World → Prop} (hgd : o.guard = none) (s x : Operand) (T : TypeId)
    (ho : o.op = .call { callee := .builtin .append, args := #[s, x], argTypes := #[T, T] }) (i0 : TypeInfo) (z : Value) (bytes : Nat)
    (hT : P.underlying T = some (.slice E)) (hi : P.info? E = some i0) (hz0 : i0.zero = some z) (hz1 : i0.size = k) (hz2 : i0.bytes = bytes) (hzs : z.cells.size = k) (hk0 : 0 < k) (hby : bytes ≤ 64)
    (hk : ∀ x, (enc x).length = k) (h1 : ∀ x, ∀ u ∈ enc x, u.oneCell' = true)
    (lo : Nat) (A : Option Addr) (n c m : Nat) (xs ys : List α) (cs : Array Value) (hcs : cs.toList = ys.flatMap enc) (hs : a.eval s = .slice A n c) (hown : OwnK enc k E w lo A n c xs) (hx : a.eval x = .slice (some ⟨w.heap.size, 0, none⟩) m m) (hm : ys.length = m)
    (hn : n + m ≤ 1000000) (hlo : lo ≤ w.heap.size)
    (h : ∀ A' c' w', OwnK enc k E w' lo A' (n + m) c' (xs ++ ys) → Below lo w w' → wpList P ops Q rest (a.put o.dst (.slice A' (n + m) c')) w') :
    wpList P ops Q (o :: rest) a (w.alloc (.cells cs E)) :=
  wpList_appK hgd s x T ho i0 z bytes hT hi hz0 hz1 hz2 hzs hk0 hby hk h1 ys ⟨w.heap.size, 0, none⟩ m m hs (hown.alloc _) hx hm
    (fun j u hj => by
      rw [← hcs] at hj
      have e : (⟨w.heap.size, 0, none⟩ : Addr).add j = ⟨w.heap.size, j, none⟩ := by unfold Addr.add; split <;> simp_all
      rw [e, cell_of_row (w.alloc (.cells cs E)) w.heap.size j cs E (0, 0) (heap_alloc_new w _)]
      simpa using hj)
    hn (by simp; omega) (fun A' c' w' hO _ hb => h A' c' w' hO (((Below.refl _ _).alloc hlo _).trans hb))

end Go.Proofs.YtjplcnbifcpebaaGreatDoor

namespace Go.Proofs.YtjplcnbifcpebaaGreatDoor
open Go.RowKit

theorem al_size (w : World) (o : Obj) : (w.alloc o).heap.size = w.heap.size + 1 := by simp
theorem infoS : (Tryz.prog.info? 72).map (fun i => (i.zero, i.size, i.bytes)) = some (some (.agg #[.int .i64 0, .int .i64 0]), 2, 16) := by kernel_rfl

set_option maxRecDepth 100000 in
set_option maxHeartbeats 2000000 in
theorem stepsOf_any (a b : Int) (w : World) (hl : leaperB a b = true) :
    Calls Tryz.prog 61 #[lpr a b] w fun e w' => ∃ A' n' c', e = .returned (.slice A' n' c') ∧ OwnP 72 w' w.heap.size A' n' c' (stepsL a b) ∧ Below w.heap.size w w' := by
  obtain ⟨i0, hi, hz0, hz1, hz2⟩ := info_parts infoS
  have HI := Lib.hid hi; have HZ0 := Lib.hid hz0; have HZ1 := Lib.hid hz1; have HZ2 := Lib.hid hz2
  have HL := Lib.hid hl
  have hb := leaperB_iff.1 hl
  obtain ⟨b1, b2, b3, b4⟩ := hb
  clear hi hz0 hz1 hz2 hl
  have j0 : ∀ w', (Instr.index 93 (.agg #[.int .i64 a, .int .i64 b, .int .i64 b, .int .i64 a]) (.int .i64 0)).run Tryz.prog w' = .ok (.agg #[.int .i64 a, .int .i64 b]) w' := fun _ => by kernel_rfl
  have j1 : ∀ w', (Instr.index 93 (.agg #[.int .i64 a, .int .i64 b, .int .i64 b, .int .i64 a]) (.int .i64 1)).run Tryz.prog w' = .ok (.agg #[.int .i64 b, .int .i64 a]) w' := fun _ => by kernel_rfl
  go_enter Tryz.func61, Tryz.ntmps61
  go_wp2
  go_loopw [3, 17] (fun v i wr => ∃ (k n' c' : Nat) (A' : Option Addr), k ≤ 2 ∧ i = .int .i64 k ∧ v = .slice A' n' c' ∧ OwnP 72 wr (w.heap.size + 1) A' n' c' ((eightL a b).take (4 * k)) ∧ Below (w.heap.size + 1) (w.alloc (.cells #[.int .i64 a, .int .i64 b] 32)) wr) (fun _ i _ => 2 - (intOf i).toNat)
  case atStart => exact ⟨0, 0, 0, none, by omega, rfl, rfl, OwnK.none_ _ _ _ _ _, Below.refl _ _⟩
  case round =>
    obtain ⟨k, n', c', A', hk, rfl, rfl, hown, hbw⟩ := hrel
    have hsz := box_size hbw
    have hk3 : k = 0 ∨ k = 1 ∨ k = 2 := by omega
    have hlen := hown.len
    rcases hk3 with rfl | rfl | rfl
    · obtain rfl : n' = 0 := by simpa using hlen.symm
      have HO := Lib.hid hown; have HB := Lib.hid hbw
      clear hown hbw hlen
      go_wp2_with (at_builtin; refine wpList_appKn rfl (.tmp 20) (.tmp 41) 85 rfl i0 (.agg #[.int .i64 0, .int .i64 0]) 16 Tryz.underlying85 HI.out HZ0.out HZ1.out HZ2.out rfl (by decide) (by decide) encP_len encP_one (w.heap.size + 1) A' 0 c' 4 ((eightL a b).take (4 * 0)) [(a, b), (-a, b), (a, -b), (-a, -b)] _ (by rfl) rfl (HO.out.alloc _) (by rw [al_size]; rfl) rfl (by omega) (by have := box_size HB.out; simp; omega) ?_; intro A2 c2 w2 hown2 hb2)
      have HO2 := Lib.hid hown2; have HB2 := Lib.hid ((HB.out.trans (((Below.refl _ _).alloc (by omega) _))).trans hb2)
      clear hown2 hb2
      go_wp2
      go_roundw
      case rel => exact ⟨1, 4, c2, A2, by omega, by go_num, rfl, HO2.out, HB2.out⟩
      case measure => simp [intOf]
    · obtain rfl : n' = 4 := by simpa [eightL] using hlen.symm
      have HO := Lib.hid hown; have HB := Lib.hid hbw
      clear hown hbw hlen
      go_wp2_with (at_builtin; refine wpList_appKn rfl (.tmp 20) (.tmp 41) 85 rfl i0 (.agg #[.int .i64 0, .int .i64 0]) 16 Tryz.underlying85 HI.out HZ0.out HZ1.out HZ2.out rfl (by decide) (by decide) encP_len encP_one (w.heap.size + 1) A' 4 c' 4 ((eightL a b).take (4 * 1)) [(b, a), (-b, a), (b, -a), (-b, -a)] _ (by rfl) rfl (HO.out.alloc _) (by rw [al_size]; rfl) rfl (by omega) (by have := box_size HB.out; simp; omega) ?_; intro A2 c2 w2 hown2 hb2)
      have HO2 := Lib.hid hown2; have HB2 := Lib.hid ((HB.out.trans (((Below.refl _ _).alloc (by omega) _))).trans hb2)
      clear hown2 hb2
      go_wp2
      go_roundw
      case rel => exact ⟨2, 8, c2, A2, by omega, by go_num, rfl, HO2.out, HB2.out⟩
      case measure => simp [intOf]
    · obtain rfl : n' = 8 := by simpa [eightL] using hlen.symm
      obtain ⟨g, rfl, hg1, hg2⟩ := hown.some_ (i := 0) (by omega)
      have HO := Lib.hid hown; have HB := Lib.hid hbw
      clear hown hbw hlen
      go_wp2_with fail
      refine (sortSpot_any (w.heap.size + 1) g c' 8 (eightL a b) wr HO.out (by omega)).mono ?_
      rintro e wv ⟨rfl, hown, hgr⟩
      have hcb : Below (w.heap.size + 1) wr wv := below_of_grown hgr (by omega) (fun g' h => by injection h with h; omega)
      have HB1 := Lib.hid (HB.out.trans hcb)
      have HO1 := Lib.hid hown
      clear hown hgr hcb HO HB
      have hsl : (sortL (eightL a b)).toArray.size = 8 := by simpa using HO1.out.len
      have HSL := Lib.hid hsl
      clear hsl
      go_wp2_with fail
      refine (compact_any (w.heap.size + 1) g c' 8 (sortL (eightL a b)).toArray wv HO1.out HSL.out (by omega) (by omega) (by rcases HO1.out.form with ⟨h, _⟩ | ⟨_, _, _, _, h, _⟩; cases h; exact h)).mono ?_
      rintro e wz ⟨n', rfl, hown, hgr⟩
      have hgl : g < wv.heap.size := by rcases HO1.out.some_ (i := 0) (by omega) with ⟨g', h, _, h2⟩; injection h with h; injection h with h; omega
      have hcb : Below (w.heap.size + 1) wv wz := below_of_grown hgr (by have := HB1.out.size; simp at this; omega) (fun g' h => by injection h with h; omega)
      rw [HSL.out, comp_sort_eight HL.out] at hown
      have HB2 := Lib.hid (HB1.out.trans hcb)
      have HO2 := Lib.hid hown
      clear hown hgr hcb HO1 HB1
      go_wp2
      go_ret
      exact ⟨_, n', c', rfl, HO2.out.lower (by omega), box_below HB2.out⟩

end Go.Proofs.YtjplcnbifcpebaaGreatDoor

namespace Go.Proofs.YtjplcnbifcpebaaGreatDoor
open Go.RowKit

set_option maxHeartbeats 400000 in
theorem number_gen (x y W : Int) (w : World) (hx : -5000 ≤ x ∧ x ≤ 5000) (hyW : -5000 ≤ y * W ∧ y * W ≤ 5000) :
    Calls Tryz.prog 52 #[lpr x y, .int .i64 W] w fun e w' => e = .returned (.int .i64 (y * W + x)) ∧ Below w.heap.size w w' := by
  obtain ⟨hx1, hx2⟩ := hx
  obtain ⟨hy1, hy2⟩ := hyW
  go_enter Tryz.func52, Tryz.ntmps52
  go_wp2
  go_ret
  exact ⟨rfl, below_new (Below.refl _ _) _⟩

theorem mul_bd {y W : Int} (hy : -100 ≤ y ∧ y ≤ 100) (hW : 1 ≤ W ∧ W ≤ 8) : -1000 ≤ y * W ∧ y * W ≤ 1000 := by
  have h : W = 1 ∨ W = 2 ∨ W = 3 ∨ W = 4 ∨ W = 5 ∨ W = 6 ∨ W = 7 ∨ W = 8 := by omega
  rcases h with rfl | rfl | rfl | rfl | rfl | rfl | rfl | rfl <;> omega

set_option maxRecDepth 100000 in
set_option maxHeartbeats 1000000 in
theorem isSpotThere_any (W H : Int) (A : Option Addr) (n c : Nat) (xs : List Int) (x y : Int) (w : World) (ha : Rd w A n xs) (hg : goodB W H xs = true) (hx : -300 ≤ x ∧ x ≤ 300) (hyW : -3000 ≤ y * W ∧ y * W ≤ 3000) :
    Calls Tryz.prog 63 #[brd W H A n c, lpr x y] w fun e w' => e = .returned (.bool (spotB W H xs x y)) ∧ Below w.heap.size w w' := by
  obtain ⟨W2, hW2⟩ : ∃ W2, W2 = (w.alloc (.cells #[.int .i64 W, .int .i64 H, .slice A n c] 30)).alloc (.cells #[.int .i64 x, .int .i64 y] 72) := ⟨_, rfl⟩
  have a0 : W2.cell? ⟨w.heap.size, 0, none⟩ = some (.int .i64 W) := by rw [hW2]; go_simp
  have a1 : W2.cell? ⟨w.heap.size, 1, none⟩ = some (.int .i64 H) := by rw [hW2]; go_simp
  have a2 : W2.cell? ⟨w.heap.size, 2, none⟩ = some (.slice A n c) := by rw [hW2]; go_simp
  have s0 : W2.cell? ⟨w.heap.size + 1, 0, none⟩ = some (.int .i64 x) := by rw [hW2]; go_simp
  have s1 : W2.cell? ⟨w.heap.size + 1, 1, none⟩ = some (.int .i64 y) := by rw [hW2]; go_simp
  have hsz : w.heap.size + 2 ≤ W2.heap.size := by rw [hW2]; simp
  have B := Lib.hid (show Below w.heap.size w W2 by rw [hW2]; exact below_new (below_new (Below.refl _ _) _) _)
  have R := Lib.hid (ha.keep B.out)
  have HG := Lib.hid hg
  have HX := Lib.hid hx; have HY := Lib.hid hyW
  clear hg hx hyW
  have ga : w.heap.size < W2.heap.size := by omega
  have gb : w.heap.size + 1 < W2.heap.size := by omega
  by_cases h0 : 0 ≤ x
  · by_cases h1 : x < W
    · go_enter Tryz.func63, Tryz.ntmps63
      go_wp2
      rw [← hW2]
      clear hW2
      go_region_held3 (fun w' => w'.cell? ⟨w.heap.size, 0, none⟩ = some (.int .i64 W) ∧ w'.cell? ⟨w.heap.size, 1, none⟩ = some (.int .i64 H) ∧ w'.cell? ⟨w.heap.size, 2, none⟩ = some (.slice A n c) ∧ w'.cell? ⟨w.heap.size + 1, 0, none⟩ = some (.int .i64 x) ∧ w'.cell? ⟨w.heap.size + 1, 1, none⟩ = some (.int .i64 y)) (first | exact ⟨a0, a1, a2, s0, s1⟩)
        (first
          | (go_at_call 52; refine (number_gen x y W _ ?_ ?_).mono ?_; (have := HX.out; omega); (have := HY.out; omega); rintro e wv ⟨rfl, hb⟩; (try replace hb := below_undrew hb); replace R := Lib.hid (R.out.keep hb); replace a0 := cell_keep a0 ga hb; replace a1 := cell_keep a1 ga hb; replace a2 := cell_keep a2 ga hb; replace s0 := cell_keep s0 gb hb; replace s1 := cell_keep s1 gb hb; replace ga := lt_keep ga hb; replace gb := lt_keep gb hb; replace B := Lib.hid (below_next B.out hb); clear hb)
          | (go_at_call 48; refine (isThere_any W H A n c (y * W + x) xs _ ?_ ?_).mono ?_; (exact R.out); (exact HG.out); rintro e wv ⟨rfl, hb⟩; replace a0 := cell_keep a0 ga hb; replace a1 := cell_keep a1 ga hb; replace a2 := cell_keep a2 ga hb; replace s0 := cell_keep s0 gb hb; replace s1 := cell_keep s1 gb hb; replace ga := lt_keep ga hb; replace gb := lt_keep gb hb; replace B := Lib.hid (below_next B.out hb); clear hb))
      all_goals go_wp2
      all_goals go_ret
      all_goals exact ⟨ret_bool (by rw [spotB, show decide (0 ≤ x ∧ x < W) = true by simp [h0, h1]]; rfl), B.out⟩
    · have h1' : decide (x < W) = false := by simpa using h1
      go_enter Tryz.func63, Tryz.ntmps63
      go_wp2
      rw [← hW2]
      clear hW2
      go_quiet (fail)
      go_wp2
      go_ret
      exact ⟨ret_bool (by rw [spotB, show decide (0 ≤ x ∧ x < W) = false by simp; omega]; rfl), below_drewN B.out _⟩
  · have h0' : decide (0 ≤ x) = false := by simpa using h0
    go_enter Tryz.func63, Tryz.ntmps63
    go_wp2
    rw [← hW2]
    clear hW2
    go_quiet (fail)
    go_wp2
    go_ret
    exact ⟨ret_bool (by rw [spotB, show decide (0 ≤ x ∧ x < W) = false by simp; omega]; rfl), below_drewN B.out _⟩

end Go.Proofs.YtjplcnbifcpebaaGreatDoor

namespace Go.Proofs.YtjplcnbifcpebaaGreatDoor
open Go.RowKit

abbrev lpv (x y dx dy : Int) : Value := .agg #[.int .i64 x, .int .i64 y, .int .i64 dx, .int .i64 dy]
def encL (x y : Int) (p : Int × Int) : List Value := [.int .i64 x, .int .i64 y, .int .i64 p.1, .int .i64 p.2]
theorem encL_len (x y : Int) (p : Int × Int) : (encL x y p).length = 4 := rfl
theorem encL_one (x y : Int) (p : Int × Int) : ∀ u ∈ encL x y p, u.oneCell' = true := fun u hu => by simp [encL] at hu; rcases hu with rfl | rfl | rfl | rfl <;> rfl
theorem infoL : (Tryz.prog.info? 74).map (fun i => (i.zero, i.size, i.bytes)) = some (some (.agg #[.int .i64 0, .int .i64 0, .int .i64 0, .int .i64 0]), 4, 32) := by kernel_rfl

set_option maxHeartbeats 400000 in
theorem end_any (x y dx dy : Int) (w : World) (hx : -100 ≤ x ∧ x ≤ 100) (hy : -100 ≤ y ∧ y ≤ 100) (hdx : -100 ≤ dx ∧ dx ≤ 100) (hdy : -100 ≤ dy ∧ dy ≤ 100) :
    Calls Tryz.prog 51 #[lpv x y dx dy] w fun e w' => e = .returned (lpr (x + dx) (y + dy)) ∧ Below w.heap.size w w' := by
  obtain ⟨hx1, hx2⟩ := hx
  obtain ⟨hy1, hy2⟩ := hy
  obtain ⟨hdx1, hdx2⟩ := hdx
  obtain ⟨hdy1, hdy2⟩ := hdy
  go_enter Tryz.func51, Tryz.ntmps51
  go_wp2
  exact bodyPost_ret (v := lpr (x + dx) (y + dy)) (by simp [results, Tryz.results51, go_sem]) rfl ⟨rfl, (by repeat (first | exact Below.refl _ _ | refine Below.setCell ?_ (by simp) _ | refine Below.drew ?_ | refine below_drewN ?_ _ | refine below_new ?_ _))⟩

theorem goes_yes {W H a b q : Int} {xs : List Int} {k : Nat} {p : Int × Int} (hx : (stepsL a b)[k]? = some p) (h : spotB W H xs (q % W + p.1) (q / W + p.2) = true) :
    ((stepsL a b).take (k + 1)).filter (fun p => spotB W H xs (q % W + p.1) (q / W + p.2)) = ((stepsL a b).take k).filter (fun p => spotB W H xs (q % W + p.1) (q / W + p.2)) ++ [p] := by
  rw [List.take_add_one, hx, List.filter_append]; simp [h]
theorem goes_no {W H a b q : Int} {xs : List Int} {k : Nat} {p : Int × Int} (hx : (stepsL a b)[k]? = some p) (h : spotB W H xs (q % W + p.1) (q / W + p.2) = false) :
    ((stepsL a b).take (k + 1)).filter (fun p => spotB W H xs (q % W + p.1) (q / W + p.2)) = ((stepsL a b).take k).filter (fun p => spotB W H xs (q % W + p.1) (q / W + p.2)) := by
  rw [List.take_add_one, hx, List.filter_append]; simp [h]
theorem below_undrewN' {w w' : World} {k : Nat} (h : Below (w.drewN k).heap.size (w.drewN k) w') : Below w.heap.size w w' := ⟨h.os, h.tape, h.output, h.size, h.block⟩
theorem keep5 {w w' : World} {β γ : Nat} {u0 u1 u2 u3 u4 : Value} (h0 : w.cell? ⟨β, 0, none⟩ = some u0) (h1 : w.cell? ⟨β, 1, none⟩ = some u1) (h2 : w.cell? ⟨β, 2, none⟩ = some u2) (h3 : w.cell? ⟨γ, 0, none⟩ = some u3) (h4 : w.cell? ⟨γ, 1, none⟩ = some u4) (hl : β < w.heap.size) (hm : γ < w.heap.size) (hb : Below w.heap.size w w') :
    w'.cell? ⟨β, 0, none⟩ = some u0 ∧ w'.cell? ⟨β, 1, none⟩ = some u1 ∧ w'.cell? ⟨β, 2, none⟩ = some u2 ∧ w'.cell? ⟨γ, 0, none⟩ = some u3 ∧ w'.cell? ⟨γ, 1, none⟩ = some u4 := ⟨cell_keep h0 hl hb, cell_keep h1 hl hb, cell_keep h2 hl hb, cell_keep h3 hm hb, cell_keep h4 hm hb⟩
def LeapAt (wr : World) (g : Nat) (x y dx dy : Int) : Prop := wr.cell? ⟨g, 0, none⟩ = some (.int .i64 x) ∧ wr.cell? ⟨g, 1, none⟩ = some (.int .i64 y) ∧ wr.cell? ⟨g, 2, none⟩ = some (.int .i64 dx) ∧ wr.cell? ⟨g, 3, none⟩ = some (.int .i64 dy) ∧ g < wr.heap.size

set_option maxRecDepth 100000 in
set_option maxHeartbeats 2000000 in
theorem leapsAt_any (W H : Int) (A : Option Addr) (n c : Nat) (xs : List Int) (a b q : Int) (w : World) (ha : Rd w A n xs) (hg : goodB W H xs = true) (hl : leaperB a b = true) (hq : 0 ≤ q ∧ q < W * H) :
    Calls Tryz.prog 50 #[brd W H A n c, lpr a b, .int .i64 q] w fun e w' => ∃ A' n' c', e = .returned (.slice A' n' c') ∧ OwnK (encL (q % W) (q / W)) 4 74 w' w.heap.size A' n' c' (goesL W H xs a b q) ∧ Below w.heap.size w w' := by
  obtain ⟨hW, hH, _, _⟩ := goodB_iff.1 hg
  have HW := Lib.hid hW; have HN := Lib.hid (cells_le hW hH); have HQ := Lib.hid hq
  have HM := Lib.hid (mod_bd (c := q) hW); have HD := Lib.hid (div7 hW hH hq)
  have HG := Lib.hid hg; have HL := Lib.hid hl
  obtain ⟨i0, hi, hz0, hz1, hz2⟩ := info_parts infoL
  have HI := Lib.hid hi; have HZ0 := Lib.hid hz0; have HZ1 := Lib.hid hz1; have HZ2 := Lib.hid hz2
  clear hW hH hg hl hq hi hz0 hz1 hz2
  obtain ⟨W2, hW2⟩ : ∃ W2, W2 = (w.alloc (.cells #[.int .i64 W, .int .i64 H, .slice A n c] 30)).alloc (.cells #[.int .i64 a, .int .i64 b] 32) := ⟨_, rfl⟩
  have a0 : W2.cell? ⟨w.heap.size, 0, none⟩ = some (.int .i64 W) := by rw [hW2]; go_simp
  have a1 : W2.cell? ⟨w.heap.size, 1, none⟩ = some (.int .i64 H) := by rw [hW2]; go_simp
  have a2 : W2.cell? ⟨w.heap.size, 2, none⟩ = some (.slice A n c) := by rw [hW2]; go_simp
  have l0 : W2.cell? ⟨w.heap.size + 1, 0, none⟩ = some (.int .i64 a) := by rw [hW2]; go_simp
  have l1 : W2.cell? ⟨w.heap.size + 1, 1, none⟩ = some (.int .i64 b) := by rw [hW2]; go_simp
  have hsz : w.heap.size + 2 ≤ W2.heap.size := by rw [hW2]; simp
  have B := Lib.hid (show Below w.heap.size w W2 by rw [hW2]; exact below_new (below_new (Below.refl _ _) _) _)
  have R := Lib.hid (ha.keep B.out)
  have ga : w.heap.size < W2.heap.size := by omega
  go_enter Tryz.func50, Tryz.ntmps50
  go_wp2_with fail
  rw [← hW2]
  clear hW2
  refine (stepsOf_any a b _ HL.out).mono ?_
  rintro e ws ⟨A1, n1, c1, rfl, hst, hb⟩
  replace R := Lib.hid (R.out.keep hb)
  replace a0 := cell_keep a0 ga hb; replace a1 := cell_keep a1 ga hb; replace a2 := cell_keep a2 ga hb; replace ga := lt_keep ga hb
  have hB0 := B.out.size
  replace B := Lib.hid (below_next B.out hb)
  have hs1 := hb.size
  have ST := Lib.hid hst
  have SL := Lib.hid hst.len
  have S8 : Hid (n1 ≤ 8) := Lib.hid (by have := stepsL_len HL.out; have := hst.len; omega)
  clear hst hb l0 l1
  have n8 := S8.out
  go_wp2
  go_loopw [7, 14] (fun v i wr => ∃ (k n' c' : Nat) (A' : Option Addr), k ≤ n1 ∧ i = .int .i64 k ∧ v = .slice A' n' c' ∧ OwnK (encL (q % W) (q / W)) 4 74 wr ws.heap.size A' n' c' (((stepsL a b).take k).filter fun p => spotB W H xs (q % W + p.1) (q / W + p.2)) ∧ Below ws.heap.size ws wr) (fun _ i _ => n1 - (intOf i).toNat)
  case atStart => exact ⟨0, 0, 0, none, by omega, rfl, rfl, OwnK.none_ _ _ _ _ _, Below.refl _ _⟩
  case round =>
    obtain ⟨k, n', c', A', hk, rfl, rfl, hown, hbw⟩ := hrel
    by_cases hlt : k < n1
    · obtain ⟨⟨dx, dy⟩, hx⟩ : ∃ p, (stepsL a b)[k]? = some p := ⟨_, List.getElem?_eq_getElem (show k < (stepsL a b).length by have := SL.out; omega)⟩
      obtain ⟨g1, rfl, _, hg1⟩ := ST.out.some_ hlt
      obtain ⟨x0, x1⟩ := pair_at ST.out hx
      have hbd := stepsL_bd HL.out (List.mem_of_getElem? hx)
      simp only at x0 x1 hbd
      have HX := Lib.hid hx; have HBD := Lib.hid hbd
      have hn' : n' ≤ 8 := by have := hown.len; have := List.length_filter_le (fun p : Int × Int => spotB W H xs (q % W + p.1) (q / W + p.2)) ((stepsL a b).take k); rw [List.length_take] at this; omega
      replace x0 := cell_keep x0 hg1 hbw; replace x1 := cell_keep x1 hg1 hbw
      have b0 := cell_keep a0 ga hbw; have b1 := cell_keep a1 ga hbw; have b2 := cell_keep a2 ga hbw
      have gb := lt_keep ga hbw
      have RR := Lib.hid (R.out.keep hbw)
      have HO := Lib.hid hown; have HB := Lib.hid hbw
      have hsw := hbw.size
      clear hx hbd hown hbw
      go_upto_region 5 with fail
      obtain ⟨W3, hW3⟩ : ∃ W3, W3 = wr.alloc (.cells #[.int .i64 dx, .int .i64 dy] 72) := ⟨_, rfl⟩
      have d0 : W3.cell? ⟨wr.heap.size, 0, none⟩ = some (.int .i64 dx) := by rw [hW3]; go_simp
      have d1 : W3.cell? ⟨wr.heap.size, 1, none⟩ = some (.int .i64 dy) := by rw [hW3]; go_simp
      have hb3 : Below wr.heap.size wr W3 := by rw [hW3]; exact below_new (Below.refl _ _) _
      replace b0 := cell_keep b0 gb hb3; replace b1 := cell_keep b1 gb hb3; replace b2 := cell_keep b2 gb hb3; replace gb := lt_keep gb hb3
      have gd : wr.heap.size < W3.heap.size := by rw [hW3]; simp
      replace RR := Lib.hid (RR.out.keep hb3); replace HO := Lib.hid (HO.out.keep hb3); replace HB := Lib.hid (HB.out.trans (hb3.mono hsw))
      have hsw3 : ws.heap.size ≤ W3.heap.size := by omega
      rw [← hW3]
      clear hW3 hb3 x0 x1
      have hAD : ∀ (w : World) (k : Nat) (o : Obj), (w.drewN k).alloc o = (w.alloc o).drewN k := fun _ _ _ => rfl
      have hSD : ∀ (w : World) (k : Nat) (p : Addr) (u : Value), (w.drewN k).setCell p u = (w.setCell p u).drewN k := fun _ _ _ _ => rfl
      go_cut [10] (fun s10 wx => ∃ gp : Nat, s10 = .pointer (some ⟨gp, 0, none⟩) ∧ LeapAt wx gp (q % W) (q / W) dx dy ∧ Below W3.heap.size W3 wx)
      case first =>
        go_region_held3 (fun w' => w'.cell? ⟨w.heap.size, 0, none⟩ = some (.int .i64 W) ∧ w'.cell? ⟨w.heap.size, 1, none⟩ = some (.int .i64 H) ∧ w'.cell? ⟨w.heap.size, 2, none⟩ = some (.slice A n c) ∧ w'.cell? ⟨wr.heap.size, 0, none⟩ = some (.int .i64 dx) ∧ w'.cell? ⟨wr.heap.size, 1, none⟩ = some (.int .i64 dy)) (first | exact ⟨b0, b1, b2, d0, d1⟩ | exact keep5 b0 b1 b2 d0 d1 gb gd (by repeat (first | exact Below.refl _ _ | refine below_drewN ?_ _ | refine Below.drew ?_ | refine Below.setCell ?_ (by simp) _ | refine Below.setCell ?_ (by simp; omega) _ | refine below_new ?_ _)))
          (first
            | (go_at_call 62; refine (spotOf_exact W H A n c q _ ?_ ?_).mono ?_; (exact HW.out); (have := HQ.out; have := HN.out; omega); rintro e wv ⟨rfl, m, rfl⟩))
        all_goals (go_wp2_with fail; go_meet; exact ⟨_, rfl, ⟨by go_simp, by go_simp, by go_simp, by go_simp, by simp; try omega⟩, (by repeat (first | exact Below.refl _ _ | refine below_drewN ?_ _ | refine Below.drew ?_ | refine Below.setCell ?_ (by simp) _ | refine Below.setCell ?_ (by simp; omega) _ | refine below_new ?_ _))⟩)
      case rest =>
        obtain ⟨gp, rfl, hlp, hbx⟩ := hcut
        obtain ⟨p0, p1, p2, p3, gl⟩ := hlp
        have c0 := cell_keep b0 gb hbx; have c1' := cell_keep b1 gb hbx; have c2 := cell_keep b2 gb hbx; have gc := lt_keep gb hbx
        have RX := Lib.hid (RR.out.keep hbx)
        replace HO := Lib.hid (HO.out.keep hbx)
        replace HB := Lib.hid (HB.out.trans (hbx.mono hsw3))
        have hsx := Nat.le_trans hsw3 hbx.size
        have HMUL : Hid (-3000 ≤ (q / W + dy) * W ∧ (q / W + dy) * W ≤ 3000) := Lib.hid (by have := mul_bd (y := q / W + dy) (by have := HD.out; have := HBD.out; omega) HW.out; omega)
        clear hAD hSD hbx b0 b1 b2 gb d0 d1 gd RR hsw3
        cases hs : spotB W H xs (q % W + dx) (q / W + dy) with
        | true =>
          have HS := Lib.hid hs
          clear hs
          go_wp2_with fail
          go_region_held3 (fun w' => w'.cell? ⟨w.heap.size, 0, none⟩ = some (.int .i64 W) ∧ w'.cell? ⟨w.heap.size, 1, none⟩ = some (.int .i64 H) ∧ w'.cell? ⟨w.heap.size, 2, none⟩ = some (.slice A n c) ∧ w'.cell? ⟨gp, 0, none⟩ = some (.int .i64 (q % W)) ∧ w'.cell? ⟨gp, 1, none⟩ = some (.int .i64 (q / W)) ∧ w'.cell? ⟨gp, 2, none⟩ = some (.int .i64 dx) ∧ w'.cell? ⟨gp, 3, none⟩ = some (.int .i64 dy)) (first | exact ⟨c0, c1', c2, p0, p1, p2, p3⟩)
            (first
              | (go_at_call 51; refine (end_any (q % W) (q / W) dx dy _ ?_ ?_ ?_ ?_).mono ?_; (have := HM.out; omega); (have := HD.out; omega); (have := HBD.out; omega); (have := HBD.out; omega); rintro e wv ⟨rfl, hb⟩; (repeat (first | replace hb := below_undrew hb | replace hb := below_undrewN' hb)); replace RX := Lib.hid (RX.out.keep hb); replace HO := Lib.hid (HO.out.keep hb); replace c0 := cell_keep c0 gc hb; replace c1' := cell_keep c1' gc hb; replace c2 := cell_keep c2 gc hb; replace gc := lt_keep gc hb; replace p0 := cell_keep p0 gl hb; replace p1 := cell_keep p1 gl hb; replace p2 := cell_keep p2 gl hb; replace p3 := cell_keep p3 gl hb; replace gl := lt_keep gl hb; replace HB := Lib.hid (HB.out.trans (hb.mono (by omega))); replace hsx := Nat.le_trans hsx hb.size; clear hb)
              | (go_at_call 63; refine (isSpotThere_any W H A n c xs (q % W + dx) (q / W + dy) _ ?_ ?_ ?_ ?_).mono ?_; (exact RX.out); (exact HG.out); (have := HM.out; have := HBD.out; omega); (exact HMUL.out); rw [HS.out]; rintro e wv ⟨rfl, hb⟩; (repeat (first | replace hb := below_undrew hb | replace hb := below_undrewN' hb)); replace RX := Lib.hid (RX.out.keep hb); replace HO := Lib.hid (HO.out.keep hb); replace c0 := cell_keep c0 gc hb; replace c1' := cell_keep c1' gc hb; replace c2 := cell_keep c2 gc hb; replace gc := lt_keep gc hb; replace p0 := cell_keep p0 gl hb; replace p1 := cell_keep p1 gl hb; replace p2 := cell_keep p2 gl hb; replace p3 := cell_keep p3 gl hb; replace gl := lt_keep gl hb; replace HB := Lib.hid (HB.out.trans (hb.mono (by omega))); replace hsx := Nat.le_trans hsx hb.size; clear hb))

          all_goals go_wp2_with (at_builtin; refine wpList_appKn rfl (.tmp 27) (.tmp 29) 69 rfl i0 (.agg #[.int .i64 0, .int .i64 0, .int .i64 0, .int .i64 0]) 32 Tryz.underlying69 HI.out HZ0.out HZ1.out HZ2.out rfl (by decide) (by decide) (encL_len (q % W) (q / W)) (encL_one (q % W) (q / W)) ws.heap.size A' n' c' 1 (((stepsL a b).take k).filter fun p => spotB W H xs (q % W + p.1) (q / W + p.2)) [(dx, dy)] _ (by rfl) rfl HO.out rfl rfl (by omega) (by omega) ?_; intro A2 c3 w2 hown2 hb2)
          all_goals
            have HO2 := Lib.hid hown2; have HB2 := Lib.hid (HB.out.trans hb2)
            clear hown2 hb2
            go_wp2
            go_roundw
            case rel => exact ⟨k + 1, n' + 1, c3, A2, by omega, by go_num, rfl, by rw [goes_yes HX.out HS.out]; exact HO2.out, HB2.out⟩
            case measure => simp [intOf]; omega
        | false =>
          have HS := Lib.hid hs
          clear hs
          go_wp2_with fail
          go_region_held3 (fun w' => w'.cell? ⟨w.heap.size, 0, none⟩ = some (.int .i64 W) ∧ w'.cell? ⟨w.heap.size, 1, none⟩ = some (.int .i64 H) ∧ w'.cell? ⟨w.heap.size, 2, none⟩ = some (.slice A n c) ∧ w'.cell? ⟨gp, 0, none⟩ = some (.int .i64 (q % W)) ∧ w'.cell? ⟨gp, 1, none⟩ = some (.int .i64 (q / W)) ∧ w'.cell? ⟨gp, 2, none⟩ = some (.int .i64 dx) ∧ w'.cell? ⟨gp, 3, none⟩ = some (.int .i64 dy)) (first | exact ⟨c0, c1', c2, p0, p1, p2, p3⟩)
            (first
              | (go_at_call 51; refine (end_any (q % W) (q / W) dx dy _ ?_ ?_ ?_ ?_).mono ?_; (have := HM.out; omega); (have := HD.out; omega); (have := HBD.out; omega); (have := HBD.out; omega); rintro e wv ⟨rfl, hb⟩; (repeat (first | replace hb := below_undrew hb | replace hb := below_undrewN' hb)); replace RX := Lib.hid (RX.out.keep hb); replace HO := Lib.hid (HO.out.keep hb); replace c0 := cell_keep c0 gc hb; replace c1' := cell_keep c1' gc hb; replace c2 := cell_keep c2 gc hb; replace gc := lt_keep gc hb; replace p0 := cell_keep p0 gl hb; replace p1 := cell_keep p1 gl hb; replace p2 := cell_keep p2 gl hb; replace p3 := cell_keep p3 gl hb; replace gl := lt_keep gl hb; replace HB := Lib.hid (HB.out.trans (hb.mono (by omega))); replace hsx := Nat.le_trans hsx hb.size; clear hb)
              | (go_at_call 63; refine (isSpotThere_any W H A n c xs (q % W + dx) (q / W + dy) _ ?_ ?_ ?_ ?_).mono ?_; (exact RX.out); (exact HG.out); (have := HM.out; have := HBD.out; omega); (exact HMUL.out); rw [HS.out]; rintro e wv ⟨rfl, hb⟩; (repeat (first | replace hb := below_undrew hb | replace hb := below_undrewN' hb)); replace RX := Lib.hid (RX.out.keep hb); replace HO := Lib.hid (HO.out.keep hb); replace c0 := cell_keep c0 gc hb; replace c1' := cell_keep c1' gc hb; replace c2 := cell_keep c2 gc hb; replace gc := lt_keep gc hb; replace p0 := cell_keep p0 gl hb; replace p1 := cell_keep p1 gl hb; replace p2 := cell_keep p2 gl hb; replace p3 := cell_keep p3 gl hb; replace gl := lt_keep gl hb; replace HB := Lib.hid (HB.out.trans (hb.mono (by omega))); replace hsx := Nat.le_trans hsx hb.size; clear hb))

          all_goals go_wp2
          all_goals go_roundw
          case rel => exact ⟨k + 1, n', c', A', by omega, by go_num, rfl, by rw [goes_no HX.out HS.out]; exact HO.out, HB.out⟩
          case measure => simp [intOf]; omega
    · go_wp2
      go_ret
      have e : k = n1 := by omega
      have e2 : (stepsL a b).take k = stepsL a b := List.take_of_length_le (by have := SL.out; omega)
      rw [e2] at hown
      exact ⟨A', n', c', rfl, hown.lower (by omega), B.out.trans (hbw.mono (by omega))⟩

end Go.Proofs.YtjplcnbifcpebaaGreatDoor

namespace Go.Proofs.YtjplcnbifcpebaaGreatDoor
open Go.RowKit

/-- append of one int as one step of a region that draws. -/
theorem step_app1 {P : Program} {w : World} {ops : Array Oper} {o : Oper} {a : Act} {K : Act → World → Prop} {Q : Exit → Act → World → Prop} {E0 : Prop} (hgd : o.guard = none) (s x : Operand) (T E : TypeId)
    (ho : o.op = .call { callee := .builtin .append, args := #[s, x], argTypes := #[T, T] }) (i0 : TypeInfo)
    (hT : P.underlying T = some (.slice E)) (hi : P.info? E = some i0) (hz0 : i0.zero = some (.int .i64 0)) (hz1 : i0.size = 1) (hz2 : i0.bytes = 8)
    (lo : Nat) (A : Option Addr) (n c : Nat) (xs : List Int) (q : Int) (hs : a.eval s = .slice A n c) (hown : OwnI E w lo A n c xs) (hx : a.eval x = .slice (some ⟨w.heap.size, 0, none⟩) 1 1)
    (hn : n ≤ 1000000) (hlo : lo ≤ w.heap.size)
    (hK : ∀ A' c' w', OwnI E w' lo A' (n + 1) c' (xs ++ [q]) → Below lo w w' → (∀ b o, b < w.heap.size → (∀ y, A = some y → y.block ≠ b) → w'.cell? ⟨b, o, none⟩ = w.cell? ⟨b, o, none⟩) → K (a.put o.dst (.slice A' (n + 1) c')) w') :
    if Region.wanted o (yielded ops a.tmps) = true then Oper.wp P o a (w.alloc (.cells #[.int .i64 q] E)) K Q else E0 := by
  have hw : Region.wanted o (yielded ops a.tmps) = true := by simp [Region.wanted, hgd]
  rw [if_pos hw]
  refine wp_append_own (w.alloc (.cells #[.int .i64 q] E)) s x T ho lo E i0 (.int .i64 0) 1 8 hT hi hz0 hz1 hz2 rfl (by decide) (.slice A n c) n (xs.map (Value.int .i64)) hs (World.ownsRow.alloc hown _)
    ⟨w.heap.size, 0, none⟩ 1 1 [.int .i64 q] hx rfl ?_ ?_ (by unfold maxLen; omega) (by omega) (by simp; omega) ?_
  · intro j u hj
    match j, hj with
    | 0, hj =>
      simp at hj; subst hj
      exact cell_of_row (w.alloc (.cells #[.int .i64 q] E)) w.heap.size 0 #[.int .i64 q] E (0, 0) (heap_alloc_new w _)
  · intro u hu; simp at hu; subst hu; rfl
  · intro v' w' hown' hgrow _
    have e : xs.map (Value.int .i64) ++ [.int .i64 q] = (xs ++ [q]).map (Value.int .i64) := by simp
    rw [e] at hown'
    obtain ⟨A', c', rfl, hO⟩ := own_form hown'
    refine hK A' c' w' hO ?_ ?_
    · have hb : Below lo w (w.alloc (.cells #[.int .i64 q] E)) := (Below.refl _ _).alloc hlo _
      refine hb.grown hgrow (by simp; omega) (fun k hk => ?_)
      exact (World.ownsRow.lt hown k hk).1
    · intro b o hb hne
      have h1 := World.cell?_of_block (a := ⟨b, o, none⟩) (hgrow.block b (by simp; omega) (by
        rcases A with _ | y
        · simp [Value.ownBlock]
        · have := hne y rfl; simp [Value.ownBlock]; omega))
      exact h1.trans (((Below.refl w.heap.size w).alloc (Nat.le_refl _) _).cell (p := ⟨b, o, none⟩) hb)

/-- slices.Sort of a row of ints of the call's own. -/
theorem sortI_any (lo : Nat) (A : Option Addr) (n c : Nat) (xs : List Int) (w : World) (hown : OwnI 3 w lo A n c xs) (hn : n ≤ 1000000) (hlo : lo ≤ w.heap.size) :
    Calls Tryz.prog 53 #[.slice A n c] w fun e w' => e = .returned (.tuple #[]) ∧ (∃ ys, OwnI 3 w' lo A n c ys ∧ ys.Perm xs ∧ ys.Pairwise (· ≤ ·)) ∧ Below lo w w' := by
  have hl := hown.len
  by_cases h0 : n = 0
  · subst h0
    obtain rfl : xs = [] := List.eq_nil_of_length_eq_zero hl
    exact (Tryz.slices_Sort_int_none A c w).mono fun e w' ⟨he, hw⟩ => ⟨he, ⟨[], by rw [hw]; exact hown, List.Perm.refl _, List.Pairwise.nil⟩, by rw [hw]; exact Below.refl _ _⟩
  · obtain ⟨g, rfl, hg1, hg2⟩ := hown.some_ (k := 0) (by omega)
    have hr := hown.2
    rcases hr with ⟨hv, _⟩ | ⟨g', cap, cur, hv, hb, hg, hnc, hm, hcs, htake⟩
    · injection hv with h1; cases h1
    · injection hv with h1 h2 h3
      injection h1 with h1
      injection h1 with h1
      subst h1 h3
      have hh : Go.Sort.Holds (Value.int .i64) w g 0 xs.toArray := holds_of_blockI hg (by rw [Nat.mul_one] at htake; rw [hl]; exact htake)
      have hp : (xs.mergeSort fun x y => decide (x ≤ y)).Perm xs := List.mergeSort_perm _ _
      have hcon := Tryz.slices_Sort_int g 0 c xs w hh hg2 (by omega)
      rw [hl] at hcon
      refine hcon.mono ?_
      rintro e w' ⟨rfl, m, os, rfl⟩
      refine ⟨rfl, ⟨_, ?_, hp, ?_⟩, below_of_grown (grownBy_sortedI _) hlo (fun g' h => by injection h with h; omega)⟩
      · have := ownsRow_sortedI (n := m) (os := os) (ss := xs) (ts := xs.mergeSort fun x y => decide (x ≤ y)) hp.length_eq hb hg (by rw [hl]; exact hnc) hm hcs
        rw [hl] at this
        exact this
      · have h := List.pairwise_mergeSort (le := fun x y : Int => decide (x ≤ y)) (by intro a b c; simp; omega) (by intro a b; simp; omega) xs
        exact h.imp (fun h => by simpa using h)

end Go.Proofs.YtjplcnbifcpebaaGreatDoor



namespace Go.Proofs.YtjplcnbifcpebaaGreatDoor
open Go.RowKit

theorem leap_at {E : TypeId} {x y : Int} {w : World} {lo g n c : Nat} {xs : List (Int × Int)} (h : OwnK (encL x y) 4 E w lo (some ⟨g, 0, none⟩) n c xs) {i : Nat} {p : Int × Int} (hx : xs[i]? = some p) :
    w.cell? ⟨g, i * 4, none⟩ = some (.int .i64 x) ∧ w.cell? ⟨g, i * 4 + 1, none⟩ = some (.int .i64 y) ∧ w.cell? ⟨g, i * 4 + 2, none⟩ = some (.int .i64 p.1) ∧ w.cell? ⟨g, i * 4 + 3, none⟩ = some (.int .i64 p.2) :=
  ⟨OwnK.cell (j := 0) (encL_len x y) h hx rfl, OwnK.cell (j := 1) (encL_len x y) h hx rfl, OwnK.cell (j := 2) (encL_len x y) h hx rfl, OwnK.cell (j := 3) (encL_len x y) h hx rfl⟩
theorem goesL_len8 {W H a b q : Int} {xs : List Int} (hl : leaperB a b = true) : (goesL W H xs a b q).length ≤ 8 :=
  Nat.le_trans (List.length_filter_le _ _) (stepsL_len hl)
theorem goesL_bd {W H a b q : Int} {xs : List Int} {p : Int × Int} (hl : leaperB a b = true) (hp : p ∈ goesL W H xs a b q) : -5 ≤ p.1 ∧ p.1 ≤ 5 ∧ -5 ≤ p.2 ∧ p.2 ≤ 5 :=
  stepsL_bd hl (List.mem_filter.1 hp).1

theorem keepL {w w' : World} {β γ : Nat} {u0 u1 u2 u3 u4 : Value} (h0 : w.cell? ⟨β, 0, none⟩ = some u0) (h1 : w.cell? ⟨γ, 0, none⟩ = some u1) (h2 : w.cell? ⟨γ, 1, none⟩ = some u2) (h3 : w.cell? ⟨γ, 2, none⟩ = some u3) (h4 : w.cell? ⟨γ, 3, none⟩ = some u4) (hl : β < w.heap.size) (hm : γ < w.heap.size) (hb : Below w.heap.size w w') :
    w'.cell? ⟨β, 0, none⟩ = some u0 ∧ w'.cell? ⟨γ, 0, none⟩ = some u1 ∧ w'.cell? ⟨γ, 1, none⟩ = some u2 ∧ w'.cell? ⟨γ, 2, none⟩ = some u3 ∧ w'.cell? ⟨γ, 3, none⟩ = some u4 := ⟨cell_keep h0 hl hb, cell_keep h1 hm hb, cell_keep h2 hm hb, cell_keep h3 hm hb, cell_keep h4 hm hb⟩

set_option maxRecDepth 100000 in
set_option maxHeartbeats 2000000 in
theorem leapCells_any (W H : Int) (A : Option Addr) (n c : Nat) (xs : List Int) (a b q : Int) (w : World) (ha : Rd w A n xs) (hg : goodB W H xs = true) (hl : leaperB a b = true) (hq : 0 ≤ q ∧ q < W * H) :
    Calls Tryz.prog 36 #[brd W H A n c, lpr a b, .int .i64 q] w fun e w' => ∃ A' n' c', e = .returned (.slice A' n' c') ∧ OwnI 3 w' w.heap.size A' n' c' (leapsL W H xs a b q) ∧ Below w.heap.size w w' := by
  obtain ⟨hW, hH, _, _⟩ := goodB_iff.1 hg
  have HW := Lib.hid hW; have HN := Lib.hid (cells_le hW hH); have HQ := Lib.hid hq
  have HM := Lib.hid (mod_bd (c := q) hW); have HD := Lib.hid (div7 hW hH hq)
  have HG := Lib.hid hg; have HL := Lib.hid hl
  obtain ⟨i0, hi, hz0, hz1, hz2⟩ := info_parts infoI
  have HI := Lib.hid hi; have HZ0 := Lib.hid hz0; have HZ1 := Lib.hid hz1; have HZ2 := Lib.hid hz2
  clear hW hH hg hl hq hi hz0 hz1 hz2
  obtain ⟨W2, hW2⟩ : ∃ W2, W2 = (w.alloc (.cells #[.int .i64 W, .int .i64 H, .slice A n c] 30)).alloc (.cells #[.int .i64 a, .int .i64 b] 32) := ⟨_, rfl⟩
  have a0 : W2.cell? ⟨w.heap.size, 0, none⟩ = some (.int .i64 W) := by rw [hW2]; go_simp
  have hsz : w.heap.size + 2 ≤ W2.heap.size := by rw [hW2]; simp
  have B := Lib.hid (show Below w.heap.size w W2 by rw [hW2]; exact below_new (below_new (Below.refl _ _) _) _)
  have R := Lib.hid (ha.keep B.out)
  have ga : w.heap.size < W2.heap.size := by omega
  go_enter Tryz.func36, Tryz.ntmps36
  go_wp2_with fail
  rw [← hW2]
  clear hW2
  refine (leapsAt_any W H A n c xs a b q _ R.out HG.out HL.out HQ.out).mono ?_
  rintro e ws ⟨A1, n1, c1, rfl, hst, hb⟩
  replace a0 := cell_keep a0 ga hb; replace ga := lt_keep ga hb
  have hB0 := B.out.size
  replace B := Lib.hid (below_next B.out hb)
  have hs1 := hb.size
  have ST := Lib.hid hst
  have SL := Lib.hid hst.len
  have n8 : n1 ≤ 8 := by have := goesL_len8 (W := W) (H := H) (xs := xs) (q := q) HL.out; have := hst.len; omega
  obtain ⟨G, hG⟩ : ∃ G, goesL W H xs a b q = G := ⟨_, rfl⟩
  rw [hG] at ST SL
  have HGG := Lib.hid hG
  clear hst hb hG R
  go_wp2
  go_loopw [7, 15] (fun v i wr => ∃ (k c' : Nat) (A' : Option Addr), k ≤ n1 ∧ i = .int .i64 k ∧ v = .slice A' k c' ∧ OwnI 3 wr ws.heap.size A' k c' ((G.take k).map (endN W q)) ∧ Below ws.heap.size ws wr) (fun _ i _ => n1 - (intOf i).toNat)
  case atStart => exact ⟨0, 0, none, by omega, rfl, rfl, OwnI.none_ _ _ _, Below.refl _ _⟩
  case round =>
    obtain ⟨k, c', A', hk, rfl, rfl, hown, hbw⟩ := hrel
    by_cases hlt : k < n1
    · obtain ⟨⟨dx, dy⟩, hx⟩ : ∃ p, G[k]? = some p := ⟨_, List.getElem?_eq_getElem (show k < G.length by have := SL.out; omega)⟩
      obtain ⟨g1, rfl, _, hg1⟩ := ST.out.some_ hlt
      obtain ⟨x0, x1, x2, x3⟩ := leap_at ST.out hx
      have hbd := goesL_bd HL.out (W := W) (H := H) (xs := xs) (q := q) (p := (dx, dy)) (by rw [HGG.out]; exact List.mem_of_getElem? hx)
      simp only at x2 x3 hbd
      have HX := Lib.hid hx; have HBD := Lib.hid hbd
      replace x0 := cell_keep x0 hg1 hbw; replace x1 := cell_keep x1 hg1 hbw; replace x2 := cell_keep x2 hg1 hbw; replace x3 := cell_keep x3 hg1 hbw
      have b0 := cell_keep a0 ga hbw
      have gb := lt_keep ga hbw
      have HO := Lib.hid hown; have HB := Lib.hid hbw
      have hsw := hbw.size
      have hAn : Hid (∀ y, A' = some y → y.block < wr.heap.size) := Lib.hid (fun y hy => by
        rcases hown.form with ⟨h, _⟩ | ⟨g, h, _, h2, _⟩
        · rw [h] at hy; cases hy
        · rw [h] at hy; injection hy with hy; rw [← hy]; exact h2)
      have hAlo : Hid (∀ y, A' = some y → ws.heap.size ≤ y.block) := Lib.hid (fun y hy => by
        rcases hown.form with ⟨h, _⟩ | ⟨g, h, h2, _, _⟩
        · rw [h] at hy; cases hy
        · rw [h] at hy; injection hy with hy; rw [← hy]; exact h2)
      clear hx hbd hown hbw
      go_upto_region 5 with fail
      obtain ⟨W3, hW3⟩ : ∃ W3, W3 = wr.alloc (.cells #[.int .i64 (q % W), .int .i64 (q / W), .int .i64 dx, .int .i64 dy] 74) := ⟨_, rfl⟩
      obtain ⟨gp, hgp⟩ : ∃ gp, gp = wr.heap.size := ⟨_, rfl⟩
      have p0 : W3.cell? ⟨gp, 0, none⟩ = some (.int .i64 (q % W)) := by rw [hW3, hgp]; go_simp
      have p1 : W3.cell? ⟨gp, 1, none⟩ = some (.int .i64 (q / W)) := by rw [hW3, hgp]; go_simp
      have p2 : W3.cell? ⟨gp, 2, none⟩ = some (.int .i64 dx) := by rw [hW3, hgp]; go_simp
      have p3 : W3.cell? ⟨gp, 3, none⟩ = some (.int .i64 dy) := by rw [hW3, hgp]; go_simp
      have hb3 : Below wr.heap.size wr W3 := by rw [hW3]; exact below_new (Below.refl _ _) _
      replace b0 := cell_keep b0 gb hb3; replace gb := lt_keep gb hb3
      have gl : gp < W3.heap.size := by rw [hW3, hgp]; simp
      replace HO := Lib.hid (HO.out.keep hb3); replace HB := Lib.hid (HB.out.trans (hb3.mono hsw))
      have hgs : ws.heap.size ≤ gp := by omega
      replace hsw : ws.heap.size ≤ W3.heap.size := by omega
      have hne : Hid (∀ y, A' = some y → y.block ≠ gp) := Lib.hid (fun y hy => by have := hAn.out y hy; omega)
      have hne0 : Hid (∀ y, A' = some y → y.block ≠ w.heap.size) := Lib.hid (fun y hy => by have := hAlo.out y hy; omega)
      rw [← hW3, ← hgp]
      clear hW3 hb3 x0 x1 x2 x3 hgp
      have HMUL : Hid (-3000 ≤ (q / W + dy) * W ∧ (q / W + dy) * W ≤ 3000) := Lib.hid (by have := mul_bd (y := q / W + dy) (by have := HD.out; have := HBD.out; omega) HW.out; omega)
      go_region_held3 (fun w' => w'.cell? ⟨w.heap.size, 0, none⟩ = some (.int .i64 W) ∧ w'.cell? ⟨gp, 0, none⟩ = some (.int .i64 (q % W)) ∧ w'.cell? ⟨gp, 1, none⟩ = some (.int .i64 (q / W)) ∧ w'.cell? ⟨gp, 2, none⟩ = some (.int .i64 dx) ∧ w'.cell? ⟨gp, 3, none⟩ = some (.int .i64 dy)) (first | exact ⟨b0, p0, p1, p2, p3⟩ | exact keepL b0 p0 p1 p2 p3 gb gl (below_new (Below.refl _ _) _))
        (first
          | (go_at_call 51; refine (end_any (q % W) (q / W) dx dy _ ?_ ?_ ?_ ?_).mono ?_; (have := HM.out; omega); (have := HD.out; omega); (have := HBD.out; omega); (have := HBD.out; omega); rintro e wv ⟨rfl, hb⟩; (repeat (first | replace hb := below_undrew hb | replace hb := below_undrewN' hb)); replace HO := Lib.hid (HO.out.keep hb); replace b0 := cell_keep b0 gb hb; replace gb := lt_keep gb hb; replace p0 := cell_keep p0 gl hb; replace p1 := cell_keep p1 gl hb; replace p2 := cell_keep p2 gl hb; replace p3 := cell_keep p3 gl hb; replace gl := lt_keep gl hb; replace HB := Lib.hid (HB.out.trans (hb.mono (by omega))); replace hsw := Nat.le_trans hsw hb.size; clear hb)
          | (go_at_call 52; refine (number_gen (q % W + dx) (q / W + dy) W _ ?_ ?_).mono ?_; (have := HM.out; have := HBD.out; omega); (have := HMUL.out; omega); rintro e wv ⟨rfl, hb⟩; (repeat (first | replace hb := below_undrew hb | replace hb := below_undrewN' hb)); replace HO := Lib.hid (HO.out.keep hb); replace b0 := cell_keep b0 gb hb; replace gb := lt_keep gb hb; replace p0 := cell_keep p0 gl hb; replace p1 := cell_keep p1 gl hb; replace p2 := cell_keep p2 gl hb; replace p3 := cell_keep p3 gl hb; replace gl := lt_keep gl hb; replace HB := Lib.hid (HB.out.trans (hb.mono (by omega))); replace hsw := Nat.le_trans hsw hb.size; clear hb)
          | (refine step_app1 rfl (.tmp 19) (.tmp 25) 22 3 rfl i0 Tryz.underlying22 HI.out HZ0.out HZ1.out HZ2.out ws.heap.size A' k c' ((G.take k).map (endN W q)) ((q / W + dy) * W + (q % W + dx)) rfl HO.out rfl (by omega) hsw ?_; intro A2 c3 w2 hown2 hb2 hfar; replace b0 := (hfar _ _ gb hne0.out).trans b0; replace p0 := (hfar _ _ gl hne.out).trans p0; replace p1 := (hfar _ _ gl hne.out).trans p1; replace p2 := (hfar _ _ gl hne.out).trans p2; replace p3 := (hfar _ _ gl hne.out).trans p3; have HO2 := Lib.hid hown2; replace HB := Lib.hid (HB.out.trans hb2); clear hown2 hb2 hfar HO))
      all_goals go_wp2
      all_goals go_roundw
      case rel => exact ⟨k + 1, c3, A2, by omega, by go_num, rfl, by rw [List.take_add_one, HX.out, List.map_append]; exact HO2.out, HB.out⟩
      case measure => simp [intOf]; omega
    · have e : k = n1 := by omega
      subst e
      have e2 : G.take k = G := List.take_of_length_le (by have := SL.out; omega)
      rw [e2] at hown
      have HO := Lib.hid hown; have HB := Lib.hid hbw
      have hsw := hbw.size
      clear hown hbw e2
      go_wp2_with fail
      refine (sortI_any ws.heap.size A' k c' (G.map (endN W q)) wr HO.out (by omega) hsw).mono ?_
      rintro e wv ⟨rfl, ⟨ys, hys, hperm, hsort⟩, hb⟩
      have e3 : ys = leapsL W H xs a b q := ends_sorted (W := W) (H := H) (hs := xs) (c := q) HW.out.1 HL.out (by rw [HGG.out]; exact hperm) hsort
      rw [e3] at hys
      have HY := Lib.hid hys; have HB2 := Lib.hid (HB.out.trans hb)
      clear hys hb hperm hsort e3 HB HO
      go_wp2
      go_ret
      exact ⟨A', k, c', rfl, HY.out.lower (by omega), B.out.trans (HB2.out.mono (by omega))⟩

end Go.Proofs.YtjplcnbifcpebaaGreatDoor
