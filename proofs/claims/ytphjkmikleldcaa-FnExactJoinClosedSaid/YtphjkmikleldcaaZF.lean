/-
  Contracts: joinsOf, CountJoins in the program.
-/
import Derived.Test.YtphjkmikleldcaaZE
namespace Go.Proofs.Ytphjkmikleldcaa
open Go.RowKit

/-- append of some elements, laid in a new block, onto a row of the call's own. -/
theorem wpList_appKj {α : Type} {enc : α → List Value} {k : Nat} {E : TypeId} {P : Program} {w : World} {ops : Array Oper} {rest : List Oper} {o : Oper} {a : Act} {Q : Exit → Act → World → Prop} (hgd : o.guard = none) (s x : Operand) (T : TypeId)
    (ho : o.op = .call { callee := .builtin .append, args := #[s, x], argTypes := #[T, T] }) (i0 : TypeInfo) (z : Value) (bytes : Nat)
    (hT : P.underlying T = some (.slice E)) (hi : P.info? E = some i0) (hz0 : i0.zero = some z) (hz1 : i0.size = k) (hz2 : i0.bytes = bytes) (hzs : z.cells.size = k) (hk0 : 0 < k) (hby : bytes ≤ 64)
    (hk : ∀ x, (enc x).length = k) (h1 : ∀ x, ∀ u ∈ enc x, u.oneCell' = true)
    (lo : Nat) (A : Option Addr) (n c m : Nat) (xs ys : List α) (cs : Array Value) (hcs : cs.toList = ys.flatMap enc) (hs : a.eval s = .slice A n c) (hown : OwnK enc k E w lo A n c xs) (hx : a.eval x = .slice (some ⟨w.heap.size, 0, none⟩) m m) (hm : ys.length = m)
    (hn : n + m ≤ 1000000) (hlo : lo ≤ w.heap.size)
    (h : ∀ A' c' w', OwnK enc k E w' lo A' (n + m) c' (xs ++ ys) → Below lo w w' → wpList P ops Q rest (a.put o.dst (.slice A' (n + m) c')) w') :
    wpList P ops Q (o :: rest) a (w.alloc (.cells cs E)) :=
  wpList_appK hgd s x T ho i0 z bytes hT hi hz0 hz1 hz2 hzs hk0 hby hk h1 ys ⟨w.heap.size, 0, none⟩ m m hs (hown.alloc _) hx hm
    (fun j u hj => by
      rw [← hcs] at hj
      have e : (⟨w.heap.size, 0, none⟩ : Addr).add j = ⟨w.heap.size, j, none⟩ := by unfold Addr.add; split <;> simp_all
      rw [e, cell_of_row (w.alloc (.cells cs E)) w.heap.size j cs E (0, 0) (heap_alloc_new w _)]
      simpa using hj)
    hn (by simp; omega) (fun A' c' w' hO _ hb => h A' c' w' hO (((Below.refl _ _).alloc hlo _).trans hb))
theorem run_by0 (w : World) : (Instr.index 90 (.agg #[.int .i64 1, .int .i64 (-1)]) (.int .i64 0)).run Try.prog w = .ok (.int .i64 1) w := by
  have hu := Try.underlying90
  have hz := Try.sizeOf3
  have ha := Try.isAgg3
  simp [Instr.index, run_underlying hu, asIntOf, go_sem]
theorem run_by1 (w : World) : (Instr.index 90 (.agg #[.int .i64 1, .int .i64 (-1)]) (.int .i64 1)).run Try.prog w = .ok (.int .i64 (-1)) w := by
  have hu := Try.underlying90
  have hz := Try.sizeOf3
  have ha := Try.isAgg3
  simp [Instr.index, run_underlying hu, asIntOf, go_sem]
def encJ (t : Trip) : List Value := [.int .i64 (t.1 : Int), .int .i64 (t.2.1 : Int), .int .i64 (if t.2.2 then -1 else 1)]
theorem encJ_len (t : Trip) : (encJ t).length = 3 := rfl
theorem encJ_one (t : Trip) : ∀ u ∈ encJ t, u.oneCell' = true := fun u hu => by simp [encJ] at hu; rcases hu with rfl | rfl | rfl <;> rfl
theorem infoJ : (Try.prog.info? 61).map (fun i => (i.zero, i.size, i.bytes)) = some (some (.agg #[.int .i64 0, .int .i64 0, .int .i64 0]), 3, 24) := by kernel_rfl
theorem mod_fact {d : Int} {x m : Nat} (h : d + (m : Int) = (x : Int)) : (d + (m : Int)).tmod (m : Int) = ((x % m : Nat) : Int) := by
  rw [h, Int.tmod_eq_emod_of_nonneg (by omega)]; simp

set_option maxRecDepth 100000 in
set_option maxHeartbeats 4000000 in
theorem joinsOf_any (W H : Int) (A : Option Addr) (n c : Nat) (a b : Int) (A2 : Option Addr) (m c2 : Nat) (ps : List Int) (A3 : Option Addr) (k c3 : Nat) (qs : List Int) (w : World) (hp : Rd w A2 m ps) (hq : Rd w A3 k qs) (hW : 1 ≤ W ∧ W ≤ 8) (hp64 : ∀ x ∈ ps, 0 ≤ x ∧ x < 64) (hq64 : ∀ x ∈ qs, 0 ≤ x ∧ x < 64) (hm : 1 ≤ m ∧ m ≤ 64) (hk : 1 ≤ k ∧ k ≤ 64) :
    Calls Try.prog 68 #[brd W H A n c, lpr a b, .slice A2 m c2, .slice A3 k c3] w fun e w' => ∃ A' n' c', e = .returned (.slice A' n' c') ∧ OwnK encJ 3 61 w' w.heap.size A' n' c' (joinsL W a b ps qs) ∧ Below w.heap.size w w' := by
  have HPL := Lib.hid hp.1; have HQL := Lib.hid hq.1
  have m9 := hp.2.1; have k9 := hq.2.1
  obtain ⟨i0, hi, hz0, hz1, hz2⟩ := info_parts infoJ
  have HI := Lib.hid hi; have HZ0 := Lib.hid hz0; have HZ1 := Lib.hid hz1; have HZ2 := Lib.hid hz2
  clear hi hz0 hz1 hz2
  obtain ⟨W2, hW2⟩ : ∃ W2, W2 = (w.alloc (.cells #[.int .i64 W, .int .i64 H, .slice A n c] 30)).alloc (.cells #[.int .i64 a, .int .i64 b] 32) := ⟨_, rfl⟩
  have a0 : W2.cell? ⟨w.heap.size, 0, none⟩ = some (.int .i64 W) := by rw [hW2]; go_simp
  have a1 : W2.cell? ⟨w.heap.size, 1, none⟩ = some (.int .i64 H) := by rw [hW2]; go_simp
  have a2 : W2.cell? ⟨w.heap.size, 2, none⟩ = some (.slice A n c) := by rw [hW2]; go_simp
  have l0 : W2.cell? ⟨w.heap.size + 1, 0, none⟩ = some (.int .i64 a) := by rw [hW2]; go_simp
  have l1 : W2.cell? ⟨w.heap.size + 1, 1, none⟩ = some (.int .i64 b) := by rw [hW2]; go_simp
  have al : w.heap.size < W2.heap.size := by rw [hW2]; simp; omega
  have ll : w.heap.size + 1 < W2.heap.size := by rw [hW2]; simp
  have B := Lib.hid (show Below w.heap.size w W2 by rw [hW2]; exact ((Below.refl _ _).alloc (Nat.le_refl _) _).alloc (by simp) _)
  have RP := Lib.hid (hp.keep B.out); have RQ := Lib.hid (hq.keep B.out)
  have HWW := Lib.hid hW; have HP64 := Lib.hid hp64; have HQ64 := Lib.hid hq64
  have HQ9 := Lib.hid (show qs.length ≤ 64 by rw [HQL.out]; exact hk.2)
  have HM1 := Lib.hid hm; have HK1 := Lib.hid hk
  obtain ⟨hm1, hm64⟩ := hm
  obtain ⟨hk1, hk64⟩ := hk
  have AL := Lib.hid al; have LL := Lib.hid ll
  have HA := Lib.hid (⟨a0, a1, a2, l0, l1⟩ : W2.cell? ⟨w.heap.size, 0, none⟩ = some (.int .i64 W) ∧ W2.cell? ⟨w.heap.size, 1, none⟩ = some (.int .i64 H) ∧ W2.cell? ⟨w.heap.size, 2, none⟩ = some (.slice A n c) ∧ W2.cell? ⟨w.heap.size + 1, 0, none⟩ = some (.int .i64 a) ∧ W2.cell? ⟨w.heap.size + 1, 1, none⟩ = some (.int .i64 b))
  clear hp hq hW hp64 hq64 a0 a1 a2 l0 l1 al ll
  go_enter Try.func68, Try.ntmps68
  go_wp2
  rw [← hW2]
  clear hW2
  go_loopw [9, 20] (fun v s wr => ∃ (i n' c' : Nat) (A' : Option Addr), i ≤ m ∧ s = .int .i64 i ∧ v = .slice A' n' c' ∧ OwnK encJ 3 61 wr W2.heap.size A' n' c' (allTo W a b ps qs i) ∧ Below W2.heap.size W2 wr) (fun _ s _ => m - (intOf s).toNat)
  case atStart => exact ⟨0, 0, 0, none, Nat.zero_le _, rfl, rfl, (by rw [show allTo W a b ps qs 0 = [] from rfl]; exact OwnK.none_ _ _ _ _ _), Below.refl _ _⟩
  case round =>
    obtain ⟨i, n', c', A', hi, rfl, rfl, hown, hbw⟩ := hrel
    by_cases hltI : i < m
    · have hiI : (i : Int) < (m : Int) := by omega
      obtain ⟨bb, oo, x, rfl, lp, hx, x0⟩ := RP.out.at_ hltI
      replace x0 := cell_keep x0 lp hbw
      have HX64 := Lib.hid (show 0 ≤ x ∧ x ≤ 64 by have := HP64.out x (List.mem_of_getElem? hx); omega)
      have HXX := Lib.hid (show ps.getD i 0 = x by rw [List.getD_eq_getElem?_getD, hx]; rfl)
      obtain ⟨e3, he3⟩ : ∃ e, e = (i + 1) % m := ⟨_, rfl⟩
      have he3m : e3 < m := by rw [he3]; exact Nat.mod_lt _ (by omega)
      obtain ⟨z, hz⟩ : ∃ z, ps[e3]? = some z := ⟨_, List.getElem?_eq_getElem (show e3 < ps.length by rw [HPL.out]; exact he3m)⟩
      have HZ64 := Lib.hid (show 0 ≤ z ∧ z ≤ 64 by have := HP64.out z (List.mem_of_getElem? hz); omega)
      have HZZ := Lib.hid (show ps.getD ((i + 1) % ps.length) 0 = z by rw [HPL.out, ← he3, List.getD_eq_getElem?_getD, hz]; rfl)
      have hA := around_any _ m c2 ps ((i : Int) + 1) e3 z wr (RP.out.keep hbw) he3m hz hm64 (by omega) (by rw [he3, mod_fact (x := i + 1 + m) (by omega), Nat.add_mod_right])
      have hwi : IntKind.i64.wrap ((i : Int) + 1) = (i : Int) + 1 := IntWalk.i64_in _ (by omega)
      have HO0 := Lib.hid hown; have HB0 := Lib.hid hbw
      clear hx he3 he3m hz hown hbw lp
      go_wp2_with fail
      refine hA.mono ?_
      rintro e wx ⟨rfl, hb⟩
      replace HO0 := Lib.hid (HO0.out.keep hb); replace HB0 := Lib.hid (HB0.out.trans (hb.mono HB0.out.size))
      clear hA hb x0 hwi
      go_wp2
      go_loopw [9, 31] (fun v s wr => ∃ (j n' c' : Nat) (A' : Option Addr), j ≤ k ∧ s = .int .i64 j ∧ v = .slice A' n' c' ∧ OwnK encJ 3 61 wr W2.heap.size A' n' c' (accL W a b ps qs i j 0) ∧ Below W2.heap.size W2 wr) (fun _ s _ => k - (intOf s).toNat)
      case atStart => exact ⟨0, n', c', A', Nat.zero_le _, rfl, rfl, (by rw [acc_start]; exact HO0.out), HB0.out⟩
      case round =>
        obtain ⟨j, n', c', A', hj, rfl, rfl, hown, hbw⟩ := hrel
        have HOJ := Lib.hid hown; have HBJ := Lib.hid hbw
        by_cases hltJ : j < k
        · have hjJ : (j : Int) < (k : Int) := by omega
          obtain ⟨b2, o2, y, rfl, lq, hy, y0⟩ := RQ.out.at_ hltJ
          replace y0 := cell_keep y0 lq hbw
          have HY64 := Lib.hid (show 0 ≤ y ∧ y ≤ 64 by have := HQ64.out y (List.mem_of_getElem? hy); omega)
          have HYY := Lib.hid (show qs.getD j 0 = y by rw [List.getD_eq_getElem?_getD, hy]; rfl)
          clear hy hown hbw lq
          go_wp2
          go_loopw [9, 37] (fun v s wr => ∃ (t n' c' : Nat) (A' : Option Addr), t ≤ 2 ∧ s = .int .i64 t ∧ v = .slice A' n' c' ∧ OwnK encJ 3 61 wr W2.heap.size A' n' c' (accL W a b ps qs i j t) ∧ Below W2.heap.size W2 wr) (fun _ s _ => 2 - (intOf s).toNat)
          case atStart => exact ⟨0, n', c', A', Nat.zero_le _, rfl, rfl, HOJ.out, HBJ.out⟩
          case round =>
            obtain ⟨t, n', c', A', ht, rfl, rfl, hown, hbw⟩ := hrel
            have hn20 : n' ≤ 20000 := by rw [← hown.len]; exact acc_len (by omega) (by omega) HQ9.out
            have HO := Lib.hid hown; have HB := Lib.hid hbw
            clear hown y0
            have ht3 : t = 0 ∨ t = 1 ∨ t = 2 := by omega
            have a0 := cell_keep HA.out.1 AL.out hbw; have a1 := cell_keep HA.out.2.1 AL.out hbw; have a2 := cell_keep HA.out.2.2.1 AL.out hbw; have l0 := cell_keep HA.out.2.2.2.1 LL.out hbw; have l1 := cell_keep HA.out.2.2.2.2 LL.out hbw
            have al := lt_keep AL.out hbw; have ll := lt_keep LL.out hbw
            rcases ht3 with rfl | rfl | rfl
            · obtain ⟨e1, he1⟩ : ∃ e, e = (j + k - 1) % k := ⟨_, rfl⟩
              have he1k : e1 < k := by rw [he1]; exact Nat.mod_lt _ (by omega)
              obtain ⟨v, hv⟩ : ∃ v, qs[e1]? = some v := ⟨_, List.getElem?_eq_getElem (show e1 < qs.length by rw [HQL.out]; exact he1k)⟩
              have HV64 := Lib.hid (show 0 ≤ v ∧ v ≤ 64 by have := HQ64.out v (List.mem_of_getElem? hv); omega)
              have hA := around_any _ k c3 qs ((j : Int) - 1) e1 v wr (RQ.out.keep hbw) he1k hv hk64 (by omega) (by rw [he1]; rw [mod_fact (x := j + k - 1) (by omega)])
              have HJE := Lib.hid (show jB W a b ps qs i j false = (leapB W a b x y && leapB W a b v z) by
                have h9 : endI qs.length j false = e1 := by rw [HQL.out, he1]; rfl
                rw [jB, HXX.out, HYY.out, h9, HZZ.out, List.getD_eq_getElem?_getD, hv]; rfl)
              have hwd : IntKind.i64.wrap ((j : Int) - 1) = (j : Int) - 1 := IntWalk.i64_in _ (by omega)
              clear he1 he1k hv hbw
              have hrb := fun w' : World => run_by0 w'
              go_wp2_with fail
              refine hA.mono ?_
              rintro e wx ⟨rfl, hb⟩
              replace a0 := cell_keep a0 al hb; replace a1 := cell_keep a1 al hb; replace a2 := cell_keep a2 al hb; replace al := lt_keep al hb; replace l0 := cell_keep l0 ll hb; replace l1 := cell_keep l1 ll hb; replace ll := lt_keep ll hb; replace HO := Lib.hid (HO.out.keep hb); replace HB := Lib.hid (HB.out.trans (hb.mono HB.out.size)); clear hb
              clear hA hwd hrb
              cases h1 : leapB W a b x y with
              | false =>
                have H1 := Lib.hid h1
                have HJF := Lib.hid (show jB W a b ps qs i j false = false by rw [HJE.out, h1]; rfl)
                clear h1
                go_wp2_with fail
                refine (doesLeap_any W H A n c a b x y _ HWW.out HX64.out HY64.out).mono ?_
                rw [H1.out]
                rintro e wx ⟨rfl, hb⟩
                replace a0 := cell_keep a0 al hb; replace a1 := cell_keep a1 al hb; replace a2 := cell_keep a2 al hb; replace al := lt_keep al hb; replace l0 := cell_keep l0 ll hb; replace l1 := cell_keep l1 ll hb; replace ll := lt_keep ll hb; replace HO := Lib.hid (HO.out.keep hb); replace HB := Lib.hid (HB.out.trans (hb.mono HB.out.size)); clear hb
                have HJ := Lib.hid (acc_no (k := 0) (by omega) (show jB W a b ps qs i j (wayB 0) = false from HJF.out))
                clear a0 a1 a2 l0 l1 al ll
                go_wp2
                go_roundw
                case rel => exact ⟨0 + 1, n', c', A', by omega, by first | rfl | go_num, rfl, by rw [HJ.out]; exact HO.out, HB.out⟩
                case measure => simp [intOf]
              | true =>
                have H1 := Lib.hid h1
                cases h2 : leapB W a b v z with
                | false =>
                  have H2 := Lib.hid h2
                  have HJF := Lib.hid (show jB W a b ps qs i j false = false by rw [HJE.out, h1, h2]; rfl)
                  clear h1 h2
                  go_wp2_with fail
                  refine (doesLeap_any W H A n c a b x y _ HWW.out HX64.out HY64.out).mono ?_
                  rw [H1.out]
                  rintro e wx ⟨rfl, hb⟩
                  replace a0 := cell_keep a0 al hb; replace a1 := cell_keep a1 al hb; replace a2 := cell_keep a2 al hb; replace al := lt_keep al hb; replace l0 := cell_keep l0 ll hb; replace l1 := cell_keep l1 ll hb; replace ll := lt_keep ll hb; replace HO := Lib.hid (HO.out.keep hb); replace HB := Lib.hid (HB.out.trans (hb.mono HB.out.size)); clear hb
                  go_wp2_with fail
                  refine (doesLeap_any W H A n c a b v z _ HWW.out HV64.out HZ64.out).mono ?_
                  rw [H2.out]
                  rintro e wx ⟨rfl, hb⟩
                  replace a0 := cell_keep a0 al hb; replace a1 := cell_keep a1 al hb; replace a2 := cell_keep a2 al hb; replace al := lt_keep al hb; replace l0 := cell_keep l0 ll hb; replace l1 := cell_keep l1 ll hb; replace ll := lt_keep ll hb; replace HO := Lib.hid (HO.out.keep hb); replace HB := Lib.hid (HB.out.trans (hb.mono HB.out.size)); clear hb
                  have HJ := Lib.hid (acc_no (k := 0) (by omega) (show jB W a b ps qs i j (wayB 0) = false from HJF.out))
                  clear a0 a1 a2 l0 l1 al ll
                  go_wp2
                  go_roundw
                  case rel => exact ⟨0 + 1, n', c', A', by omega, by first | rfl | go_num, rfl, by rw [HJ.out]; exact HO.out, HB.out⟩
                  case measure => simp [intOf]
                | true =>
                  have H2 := Lib.hid h2
                  have HJ := Lib.hid (acc_yes (k := 0) (by omega) (show jB W a b ps qs i j (wayB 0) = true by (show jB W a b ps qs i j false = true); rw [HJE.out, h1, h2]; rfl))
                  clear h1 h2
                  go_wp2_with fail
                  refine (doesLeap_any W H A n c a b x y _ HWW.out HX64.out HY64.out).mono ?_
                  rw [H1.out]
                  rintro e wx ⟨rfl, hb⟩
                  replace a0 := cell_keep a0 al hb; replace a1 := cell_keep a1 al hb; replace a2 := cell_keep a2 al hb; replace al := lt_keep al hb; replace l0 := cell_keep l0 ll hb; replace l1 := cell_keep l1 ll hb; replace ll := lt_keep ll hb; replace HO := Lib.hid (HO.out.keep hb); replace HB := Lib.hid (HB.out.trans (hb.mono HB.out.size)); clear hb
                  go_wp2_with fail
                  refine (doesLeap_any W H A n c a b v z _ HWW.out HV64.out HZ64.out).mono ?_
                  rw [H2.out]
                  rintro e wx ⟨rfl, hb⟩
                  replace a0 := cell_keep a0 al hb; replace a1 := cell_keep a1 al hb; replace a2 := cell_keep a2 al hb; replace al := lt_keep al hb; replace l0 := cell_keep l0 ll hb; replace l1 := cell_keep l1 ll hb; replace ll := lt_keep ll hb; replace HO := Lib.hid (HO.out.keep hb); replace HB := Lib.hid (HB.out.trans (hb.mono HB.out.size)); clear hb
                  have hsw := HB.out.size
                  go_wp2_with (at_builtin; refine wpList_appKj rfl (.tmp 57) (.tmp 62) 58 rfl i0 (.agg #[.int .i64 0, .int .i64 0, .int .i64 0]) 24 Try.underlying58 HI.out HZ0.out HZ1.out HZ2.out rfl (by decide) (by decide) encJ_len encJ_one W2.heap.size A' n' c' 1 (accL W a b ps qs i j 0) [(i, j, false)] _ (by rfl) rfl HO.out rfl rfl (by omega) hsw ?_; intro A4 c4 w5 hown3 hb5)
                  have O3 := Lib.hid hown3
                  have B3 := Lib.hid (HB.out.trans hb5)
                  clear hown3 hb5 a0 a1 a2 l0 l1 al ll
                  go_wp2
                  go_roundw
                  case rel => exact ⟨0 + 1, n' + 1, c4, A4, by omega, by first | rfl | go_num, rfl, by rw [HJ.out]; exact O3.out, B3.out⟩
                  case measure => simp [intOf]
            · obtain ⟨e1, he1⟩ : ∃ e, e = (j + 1) % k := ⟨_, rfl⟩
              have he1k : e1 < k := by rw [he1]; exact Nat.mod_lt _ (by omega)
              obtain ⟨v, hv⟩ : ∃ v, qs[e1]? = some v := ⟨_, List.getElem?_eq_getElem (show e1 < qs.length by rw [HQL.out]; exact he1k)⟩
              have HV64 := Lib.hid (show 0 ≤ v ∧ v ≤ 64 by have := HQ64.out v (List.mem_of_getElem? hv); omega)
              have hA := around_any _ k c3 qs ((j : Int) + 1) e1 v wr (RQ.out.keep hbw) he1k hv hk64 (by omega) (by rw [he1]; rw [mod_fact (x := j + 1 + k) (by omega)]; rw [Nat.add_mod_right])
              have HJE := Lib.hid (show jB W a b ps qs i j true = (leapB W a b x y && leapB W a b v z) by
                have h9 : endI qs.length j true = e1 := by rw [HQL.out, he1]; rfl
                rw [jB, HXX.out, HYY.out, h9, HZZ.out, List.getD_eq_getElem?_getD, hv]; rfl)
              have hwd : IntKind.i64.wrap ((j : Int) + 1) = (j : Int) + 1 := IntWalk.i64_in _ (by omega)
              clear he1 he1k hv hbw
              have hrb := fun w' : World => run_by1 w'
              go_wp2_with fail
              refine hA.mono ?_
              rintro e wx ⟨rfl, hb⟩
              replace a0 := cell_keep a0 al hb; replace a1 := cell_keep a1 al hb; replace a2 := cell_keep a2 al hb; replace al := lt_keep al hb; replace l0 := cell_keep l0 ll hb; replace l1 := cell_keep l1 ll hb; replace ll := lt_keep ll hb; replace HO := Lib.hid (HO.out.keep hb); replace HB := Lib.hid (HB.out.trans (hb.mono HB.out.size)); clear hb
              clear hA hwd hrb
              cases h1 : leapB W a b x y with
              | false =>
                have H1 := Lib.hid h1
                have HJF := Lib.hid (show jB W a b ps qs i j true = false by rw [HJE.out, h1]; rfl)
                clear h1
                go_wp2_with fail
                refine (doesLeap_any W H A n c a b x y _ HWW.out HX64.out HY64.out).mono ?_
                rw [H1.out]
                rintro e wx ⟨rfl, hb⟩
                replace a0 := cell_keep a0 al hb; replace a1 := cell_keep a1 al hb; replace a2 := cell_keep a2 al hb; replace al := lt_keep al hb; replace l0 := cell_keep l0 ll hb; replace l1 := cell_keep l1 ll hb; replace ll := lt_keep ll hb; replace HO := Lib.hid (HO.out.keep hb); replace HB := Lib.hid (HB.out.trans (hb.mono HB.out.size)); clear hb
                have HJ := Lib.hid (acc_no (k := 1) (by omega) (show jB W a b ps qs i j (wayB 1) = false from HJF.out))
                clear a0 a1 a2 l0 l1 al ll
                go_wp2
                go_roundw
                case rel => exact ⟨1 + 1, n', c', A', by omega, by first | rfl | go_num, rfl, by rw [HJ.out]; exact HO.out, HB.out⟩
                case measure => simp [intOf]
              | true =>
                have H1 := Lib.hid h1
                cases h2 : leapB W a b v z with
                | false =>
                  have H2 := Lib.hid h2
                  have HJF := Lib.hid (show jB W a b ps qs i j true = false by rw [HJE.out, h1, h2]; rfl)
                  clear h1 h2
                  go_wp2_with fail
                  refine (doesLeap_any W H A n c a b x y _ HWW.out HX64.out HY64.out).mono ?_
                  rw [H1.out]
                  rintro e wx ⟨rfl, hb⟩
                  replace a0 := cell_keep a0 al hb; replace a1 := cell_keep a1 al hb; replace a2 := cell_keep a2 al hb; replace al := lt_keep al hb; replace l0 := cell_keep l0 ll hb; replace l1 := cell_keep l1 ll hb; replace ll := lt_keep ll hb; replace HO := Lib.hid (HO.out.keep hb); replace HB := Lib.hid (HB.out.trans (hb.mono HB.out.size)); clear hb
                  go_wp2_with fail
                  refine (doesLeap_any W H A n c a b v z _ HWW.out HV64.out HZ64.out).mono ?_
                  rw [H2.out]
                  rintro e wx ⟨rfl, hb⟩
                  replace a0 := cell_keep a0 al hb; replace a1 := cell_keep a1 al hb; replace a2 := cell_keep a2 al hb; replace al := lt_keep al hb; replace l0 := cell_keep l0 ll hb; replace l1 := cell_keep l1 ll hb; replace ll := lt_keep ll hb; replace HO := Lib.hid (HO.out.keep hb); replace HB := Lib.hid (HB.out.trans (hb.mono HB.out.size)); clear hb
                  have HJ := Lib.hid (acc_no (k := 1) (by omega) (show jB W a b ps qs i j (wayB 1) = false from HJF.out))
                  clear a0 a1 a2 l0 l1 al ll
                  go_wp2
                  go_roundw
                  case rel => exact ⟨1 + 1, n', c', A', by omega, by first | rfl | go_num, rfl, by rw [HJ.out]; exact HO.out, HB.out⟩
                  case measure => simp [intOf]
                | true =>
                  have H2 := Lib.hid h2
                  have HJ := Lib.hid (acc_yes (k := 1) (by omega) (show jB W a b ps qs i j (wayB 1) = true by (show jB W a b ps qs i j true = true); rw [HJE.out, h1, h2]; rfl))
                  clear h1 h2
                  go_wp2_with fail
                  refine (doesLeap_any W H A n c a b x y _ HWW.out HX64.out HY64.out).mono ?_
                  rw [H1.out]
                  rintro e wx ⟨rfl, hb⟩
                  replace a0 := cell_keep a0 al hb; replace a1 := cell_keep a1 al hb; replace a2 := cell_keep a2 al hb; replace al := lt_keep al hb; replace l0 := cell_keep l0 ll hb; replace l1 := cell_keep l1 ll hb; replace ll := lt_keep ll hb; replace HO := Lib.hid (HO.out.keep hb); replace HB := Lib.hid (HB.out.trans (hb.mono HB.out.size)); clear hb
                  go_wp2_with fail
                  refine (doesLeap_any W H A n c a b v z _ HWW.out HV64.out HZ64.out).mono ?_
                  rw [H2.out]
                  rintro e wx ⟨rfl, hb⟩
                  replace a0 := cell_keep a0 al hb; replace a1 := cell_keep a1 al hb; replace a2 := cell_keep a2 al hb; replace al := lt_keep al hb; replace l0 := cell_keep l0 ll hb; replace l1 := cell_keep l1 ll hb; replace ll := lt_keep ll hb; replace HO := Lib.hid (HO.out.keep hb); replace HB := Lib.hid (HB.out.trans (hb.mono HB.out.size)); clear hb
                  have hsw := HB.out.size
                  go_wp2_with (at_builtin; refine wpList_appKj rfl (.tmp 57) (.tmp 62) 58 rfl i0 (.agg #[.int .i64 0, .int .i64 0, .int .i64 0]) 24 Try.underlying58 HI.out HZ0.out HZ1.out HZ2.out rfl (by decide) (by decide) encJ_len encJ_one W2.heap.size A' n' c' 1 (accL W a b ps qs i j 1) [(i, j, true)] _ (by rfl) rfl HO.out rfl rfl (by omega) hsw ?_; intro A4 c4 w5 hown3 hb5)
                  have O3 := Lib.hid hown3
                  have B3 := Lib.hid (HB.out.trans hb5)
                  clear hown3 hb5 a0 a1 a2 l0 l1 al ll
                  go_wp2
                  go_roundw
                  case rel => exact ⟨1 + 1, n' + 1, c4, A4, by omega, by first | rfl | go_num, rfl, by rw [HJ.out]; exact O3.out, B3.out⟩
                  case measure => simp [intOf]
            · clear a0 a1 a2 l0 l1 al ll hbw
              go_wp2
              go_roundw
              case rel => exact ⟨j + 1, n', c', A', by omega, by go_num, rfl, by rw [acc_row]; exact HO.out, HB.out⟩
              case measure => simp [intOf]; omega
        · have hjk : j = k := by omega
          have HE := Lib.hid (show accL W a b ps qs i j 0 = allTo W a b ps qs (i + 1) by rw [hjk, ← HQL.out, acc_end])
          have hjJ : ¬ (j : Int) < (k : Int) := by omega
          clear hjk hown hbw
          go_wp2
          go_roundw
          case rel => exact ⟨i + 1, n', c', A', by omega, by go_num, rfl, by rw [← HE.out]; exact HOJ.out, HBJ.out⟩
          case measure => simp [intOf]; omega
    · have him : i = m := by omega
      have HE := Lib.hid (show allTo W a b ps qs i = joinsL W a b ps qs by rw [joinsL, HPL.out, him])
      have hiI : ¬ (i : Int) < (m : Int) := by omega
      have HO0 := Lib.hid (hown.lower B.out.size); have HB0 := Lib.hid hbw
      clear him hown hbw
      go_wp2
      go_ret
      exact ⟨_, _, _, rfl, by rw [← HE.out]; exact HO0.out, B.out.trans (HB0.out.mono B.out.size)⟩

set_option maxRecDepth 100000 in
set_option maxHeartbeats 4000000 in
theorem impl_CountJoins (W H : Int) (A : Option Addr) (n c : Nat) (xs : List Int) (a b : Int) (A2 : Option Addr) (m c2 : Nat) (ps : List Int) (A3 : Option Addr) (k c3 : Nat) (qs : List Int) (w : World) (ha : Rd w A n xs) (hp : Rd w A2 m ps) (_ : m ≤ c2) (hq : Rd w A3 k qs) (_ : k ≤ c3) :
    Calls Try.prog 36 #[brd W H A n c, lpr a b, .slice A2 m c2, .slice A3 k c3] w fun e w' => e = .returned (.tuple #[.int .i64 (joinV W H xs a b ps qs), .bool (okTwo2 W H xs a b ps qs)]) ∧ Below w.heap.size w w' := by
  have HPL := Lib.hid hp.1; have HQL := Lib.hid hq.1
  obtain ⟨W2, hW2⟩ : ∃ W2, W2 = ((w.alloc (.cells #[.int .i64 W, .int .i64 H, .slice A n c] 30)).alloc (.cells #[.int .i64 a, .int .i64 b] 32)).alloc (.cells #[.slice A2 m c2, .slice A3 k c3] 22) := ⟨_, rfl⟩
  have a0 : W2.cell? ⟨w.heap.size, 0, none⟩ = some (.int .i64 W) := by rw [hW2]; go_simp
  have a1 : W2.cell? ⟨w.heap.size, 1, none⟩ = some (.int .i64 H) := by rw [hW2]; go_simp
  have a2 : W2.cell? ⟨w.heap.size, 2, none⟩ = some (.slice A n c) := by rw [hW2]; go_simp
  have l0 : W2.cell? ⟨w.heap.size + 1, 0, none⟩ = some (.int .i64 a) := by rw [hW2]; go_simp
  have l1 : W2.cell? ⟨w.heap.size + 1, 1, none⟩ = some (.int .i64 b) := by rw [hW2]; go_simp
  have hsz : W2.heap.size = w.heap.size + 3 := by rw [hW2]; simp
  have al : w.heap.size < W2.heap.size := by omega
  have ll : w.heap.size + 1 < W2.heap.size := by omega
  have B := Lib.hid (show Below w.heap.size w W2 by rw [hW2]; exact (((Below.refl _ _).alloc (Nat.le_refl _) _).alloc (by simp) _).alloc (by simp; omega) _)
  have R := Lib.hid (ha.keep B.out); have RP := Lib.hid (hp.keep B.out)
  have RQ := Lib.hid (hq.keep B.out)
  have WA := Lib.hid (show WalksAt W2 (w.heap.size + 1 + 1) [ps, qs] from ⟨by omega, fun i l hi => by
    rcases i with _ | _ | i
    · injection hi with hi; subst hi; exact ⟨A2, m, c2, by rw [hW2]; go_simp, hp.keep B.out⟩
    · injection hi with hi; subst hi; exact ⟨A3, k, c3, by rw [hW2]; go_simp, hq.keep B.out⟩
    · simp at hi⟩)
  clear ha hp hq hsz
  cases hok : okTwo2 W H xs a b ps qs with
  | true =>
    have HOK := Lib.hid hok
    clear hok
    go_enter Try.func36, Try.ntmps36
    go_wp2_with fail
    rw [← hW2]
    clear hW2
    refine (areClosed_any W H A n c xs a b _ ps qs _ R.out WA.out).mono ?_
    rw [HOK.out]
    rintro e wv ⟨rfl, hb⟩
    replace a0 := cell_keep a0 al hb; replace a1 := cell_keep a1 al hb; replace a2 := cell_keep a2 al hb; replace al := lt_keep al hb
    replace l0 := cell_keep l0 ll hb; replace l1 := cell_keep l1 ll hb; replace ll := lt_keep ll hb
    replace R := Lib.hid (R.out.keep hb); replace RP := Lib.hid (RP.out.keep hb)
    replace B := Lib.hid (below_next B.out hb)
    replace RQ := Lib.hid (RQ.out.keep hb)
    clear hb
    clear WA R
    have hml := ok_len (two_p HOK.out); have hkl := ok_len (two_q HOK.out)
    rw [HPL.out] at hml; rw [HQL.out] at hkl
    go_wp2_with fail
    refine (joinsOf_any W H A n c a b A2 m c2 ps A3 k c3 qs _ RP.out RQ.out (ok_W (two_p HOK.out)) (ok_64 (two_p HOK.out)) (ok_64 (two_q HOK.out)) hml hkl).mono ?_
    rintro e wx ⟨A4, n4, c4, rfl, own, hb⟩
    have HN := Lib.hid (show joinV W H xs a b ps qs = (n4 : Int) by rw [joinV, if_pos HOK.out, own.len])
    replace B := Lib.hid (below_next B.out hb)
    clear own hb a0 a1 a2 l0 l1 al ll RP RQ hml hkl
    go_wp2
    go_ret2
    exact ⟨by rw [HN.out]; first | rfl | (rw [HOK.out]), B.out⟩
  | false =>
    have HOK := Lib.hid hok
    clear hok
    go_enter Try.func36, Try.ntmps36
    go_wp2_with fail
    rw [← hW2]
    clear hW2
    refine (areClosed_any W H A n c xs a b _ ps qs _ R.out WA.out).mono ?_
    rw [HOK.out]
    rintro e wv ⟨rfl, hb⟩
    replace a0 := cell_keep a0 al hb; replace a1 := cell_keep a1 al hb; replace a2 := cell_keep a2 al hb; replace al := lt_keep al hb
    replace l0 := cell_keep l0 ll hb; replace l1 := cell_keep l1 ll hb; replace ll := lt_keep ll hb
    replace R := Lib.hid (R.out.keep hb); replace RP := Lib.hid (RP.out.keep hb)
    replace B := Lib.hid (below_next B.out hb)
    replace RQ := Lib.hid (RQ.out.keep hb)
    clear hb
    clear a0 a1 a2 l0 l1 al ll R RP RQ WA
    go_wp2
    go_ret2
    exact ⟨by rw [joinV, HOK.out]; rfl, B.out⟩

end Go.Proofs.Ytphjkmikleldcaa
