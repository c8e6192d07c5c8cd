/-
  Contracts: all leaps of a board as pairs of cells.
  Contracts: CrossedLeaps, in the model.
  Contracts: CrossedLeaps, in the program.
  Contracts: leaps apart, in the model.
  Contracts: MostApart, in the model.
  Contracts: leaps apart, in the program: line.meets.
-/
import Derived.Test.YtbpgkigoboobeaaGreatJA
import Derived.Test.YtbpgkigoboobeaaGreatV1
import Derived.Test.YtbpgkigoboobeaaGreatBunHMostApart1
import Derived.Test.YtbpgkigoboobeaaGreatJ5
import Derived.Test.YtbpgkigoboobeaaGreatJ2
namespace Go.Proofs.YtbpgkigoboobeaaGreat
open Go.RowKit

def pairsIn (p : Int) (l : List Int) : List (Int × Int) := (l.filter fun q => decide (p < q)).map fun q => (p, q)
def pairsTo (W H : Int) (xs : List Int) (a b : Int) (k : Nat) : List (Int × Int) := ((cellsL W H xs).take k).flatMap fun p => pairsIn p (leapsL W H xs a b p)
def pairsL (W H : Int) (xs : List Int) (a b : Int) : List (Int × Int) := (cellsL W H xs).flatMap fun p => pairsIn p (leapsL W H xs a b p)
theorem pairsIn_len (p : Int) (l : List Int) : (pairsIn p l).length ≤ l.length := by rw [pairsIn, List.length_map]; exact List.length_filter_le _ _
theorem pairsIn_yes {p q : Int} {l : List Int} {j : Nat} (h : l[j]? = some q) (hq : p < q) : pairsIn p (l.take (j + 1)) = pairsIn p (l.take j) ++ [(p, q)] := by
  rw [pairsIn, List.take_add_one, h, List.filter_append, List.map_append]; simp [hq, pairsIn]
theorem pairsIn_no {p q : Int} {l : List Int} {j : Nat} (h : l[j]? = some q) (hq : ¬ p < q) : pairsIn p (l.take (j + 1)) = pairsIn p (l.take j) := by
  rw [pairsIn, List.take_add_one, h, List.filter_append, List.map_append]; simp [hq, pairsIn]
theorem pairsTo_succ {W H a b p : Int} {xs : List Int} {k : Nat} (h : (cellsL W H xs)[k]? = some p) : pairsTo W H xs a b (k + 1) = pairsTo W H xs a b k ++ pairsIn p (leapsL W H xs a b p) := by
  rw [pairsTo, List.take_add_one, h, List.flatMap_append]; simp [pairsTo]
theorem pairsTo_len {W H a b : Int} {xs : List Int} (hN : 1 ≤ W * H ∧ W * H ≤ 64) : ∀ k, k ≤ (cellsL W H xs).length → (pairsTo W H xs a b k).length ≤ k * 64
  | 0, _ => by simp [pairsTo]
  | k + 1, h => by
    have hx : (cellsL W H xs)[k]? = some (cellsL W H xs)[k] := List.getElem?_eq_getElem (by omega)
    have h1 := pairsTo_len (a := a) (b := b) (xs := xs) hN k (by omega)
    have h2 := pairsIn_len (cellsL W H xs)[k] (leapsL W H xs a b (cellsL W H xs)[k])
    have h3 := leapsL_len64 (a := a) (b := b) (q := (cellsL W H xs)[k]) (xs := xs) hN
    rw [pairsTo_succ hx, List.length_append]; omega
theorem pairsL_all {W H a b : Int} {xs : List Int} {k : Nat} (h : (cellsL W H xs).length ≤ k) : pairsTo W H xs a b k = pairsL W H xs a b := by rw [pairsTo, List.take_of_length_le h, pairsL]
theorem cellsL_rng {W H p : Int} {xs : List Int} (h : p ∈ cellsL W H xs) : 0 ≤ p ∧ p < W * H := (hasB_iff.1 (cellsL_mem.1 h)).1
theorem pairsL_mem {W H a b : Int} {xs : List Int} {z : Int × Int} (_ : 1 ≤ W * H ∧ W * H ≤ 64) (h : z ∈ pairsL W H xs a b) : z.1 < z.2 ∧ (0 ≤ z.1 ∧ z.1 < W * H) ∧ (0 ≤ z.2 ∧ z.2 < W * H) := by
  obtain ⟨p, hp, hz⟩ := List.mem_flatMap.1 h
  obtain ⟨q, hq, rfl⟩ := List.mem_map.1 hz
  obtain ⟨h1, h2⟩ := List.mem_filter.1 hq
  have h3 := (List.mem_filter.1 h1).1
  exact ⟨of_decide_eq_true h2, cellsL_rng hp, cellsL_rng h3⟩
theorem pairsL_len {W H a b : Int} {xs : List Int} (hN : 1 ≤ W * H ∧ W * H ≤ 64) : (pairsL W H xs a b).length ≤ 4096 := by
  have h := pairsTo_len (a := a) (b := b) (xs := xs) hN _ (Nat.le_refl _)
  have h2 := cellsL_len64 (xs := xs) hN
  rw [pairsL_all (Nat.le_refl _)] at h
  omega
def PartsIn (w : World) (lo : Nat) (A : Option Addr) (n c : Nat) (ps : List (List Int)) : Prop := ∃ top, PartsAt w lo top A n c ps ∧ top ≤ w.heap.size
theorem wpList_appS3 {ops : Array Oper} {rest : List Oper} {o : Oper} {a : Act} {Q : Exit → Act → World → Prop} {w : World} (gx : Nat) (hgx : gx = w.heap.size) (hgd : o.guard = none) (s x : Operand)
    (ho : o.op = .call { callee := .builtin .append, args := #[s, x], argTypes := #[28, 28] }) (lo top : Nat) (A : Option Addr) (n c : Nat) (ps : List (List Int)) (A3 : Option Addr) (n3 c3 : Nat) (p : List Int)
    (hs : a.eval s = .slice A n c) (hown : PartsAt w lo top A n c ps) (hp : OwnI 3 w lo A3 n3 c3 p) (hpn : ∀ y, A3 = some y → top ≤ y.block) (htop : top ≤ w.heap.size)
    (hx : a.eval x = .slice (some ⟨gx, 0, none⟩) 1 1) (hn : n ≤ 100000) (hlo : lo ≤ w.heap.size)
    (h : ∀ A' c' w', PartsAt w' lo w.heap.size A' (n + 1) c' (ps ++ [p]) → Below lo w w' → (∀ (lo' : Nat) (a' : Addr) (m k : Nat) (q : List Int), OwnI 3 w lo' (some a') m k q → OwnI 3 w' lo' (some a') m k q) → wpList Tryz.prog ops Q rest (a.put o.dst (.slice A' (n + 1) c')) w') :
    wpList Tryz.prog ops Q (o :: rest) a (w.alloc (.cells #[.slice A3 n3 c3] 22)) := by
  subst hgx
  exact wpList_appS hgd s x ho lo top A n c ps A3 n3 c3 p hs hown hp hpn htop hx hn hlo (fun A' c' w' h1 h2 _ _ h3 => h A' c' w' h1 h2 h3)

set_option maxRecDepth 100000 in
set_option maxHeartbeats 4000000 in
theorem crLeaps_any (W H : Int) (A : Option Addr) (n c : Nat) (xs : List Int) (a b : Int) (w : World) (ha : Rd w A n xs) (hg : goodB W H xs = true) (hl : leaperB a b = true) :
    Calls Tryz.prog 35 #[brd W H A n c, lpr a b] w fun e w' => ∃ A' n' c', e = .returned (.slice A' n' c') ∧ PartsIn w' w.heap.size A' n' c' ((pairsL W H xs a b).map pairL) ∧ Below w.heap.size w w' := by
  obtain ⟨hW, hH, _, _⟩ := goodB_iff.1 hg
  have HN := Lib.hid (cells_le hW hH); have HW := Lib.hid hW
  have HG := Lib.hid hg; have HL := Lib.hid hl
  obtain ⟨W2, hW2⟩ : ∃ W2, W2 = (w.alloc (.cells #[.int .i64 W, .int .i64 H, .slice A n c] 31)).alloc (.cells #[.int .i64 a, .int .i64 b] 33) := ⟨_, rfl⟩
  have a0 : W2.cell? ⟨w.heap.size, 0, none⟩ = some (.int .i64 W) := by rw [hW2]; go_simp
  have a1 : W2.cell? ⟨w.heap.size, 1, none⟩ = some (.int .i64 H) := by rw [hW2]; go_simp
  have a2 : W2.cell? ⟨w.heap.size, 2, none⟩ = some (.slice A n c) := by rw [hW2]; go_simp
  have l0 : W2.cell? ⟨w.heap.size + 1, 0, none⟩ = some (.int .i64 a) := by rw [hW2]; go_simp
  have l1 : W2.cell? ⟨w.heap.size + 1, 1, none⟩ = some (.int .i64 b) := by rw [hW2]; go_simp
  have al : w.heap.size < W2.heap.size := by rw [hW2]; simp; omega
  have ll : w.heap.size + 1 < W2.heap.size := by rw [hW2]; simp
  have B := Lib.hid (show Below w.heap.size w W2 by rw [hW2]; exact below_new (below_new (Below.refl _ _) _) _)
  have R := Lib.hid (ha.keep B.out)
  clear ha hg hl hW hH
  go_enter Tryz.func35, Tryz.ntmps35
  go_wp2_with fail
  rw [← hW2]
  clear hW2
  refine (boCells_any W H A n c xs _ R.out HN.out).mono ?_
  rintro e w1 ⟨A1, n1, c1, rfl, hst, hb⟩
  replace R := Lib.hid (R.out.keep hb)
  replace a0 := cell_keep a0 al hb; replace a1 := cell_keep a1 al hb; replace a2 := cell_keep a2 al hb; replace al := lt_keep al hb
  replace l0 := cell_keep l0 ll hb; replace l1 := cell_keep l1 ll hb; replace ll := lt_keep ll hb
  replace B := Lib.hid (below_next B.out hb)
  have ST := Lib.hid hst
  have SL := Lib.hid hst.len
  have n64 : n1 ≤ 64 := by have := cellsL_len64 (xs := xs) HN.out; have := hst.len; omega
  clear hst hb
  go_wp2_with fail
  go_loopw [5, 13] (fun v i wr => ∃ (k n' c' top : Nat) (A' : Option Addr), k ≤ n1 ∧ i = .int .i64 k ∧ v = .slice A' n' c' ∧ n' ≤ k * 64 ∧ PartsAt wr w1.heap.size top A' n' c' ((pairsTo W H xs a b k).map pairL) ∧ top ≤ wr.heap.size ∧ Below w1.heap.size w1 wr) (fun _ i _ => n1 - (intOf i).toNat)
  case atStart => exact ⟨0, 0, 0, 0, none, by omega, rfl, rfl, by omega, PartsAt.none_ _ _ _, by omega, Below.refl _ _⟩
  case round =>
    obtain ⟨k, n', c', top, A', hk, rfl, rfl, hn', hpa, htop, hbw⟩ := hrel
    have PA := Lib.hid hpa
    by_cases hlt : k < n1
    · obtain ⟨p, hx⟩ : ∃ p, (cellsL W H xs)[k]? = some p := ⟨_, List.getElem?_eq_getElem (by rw [SL.out]; exact hlt)⟩
      have HX := Lib.hid hx
      have hpr := cellsL_rng (List.mem_of_getElem? hx)
      have HPR := Lib.hid hpr
      have HP64 := Lib.hid (show 0 ≤ p ∧ p ≤ 64 by have := HN.out; omega)
      obtain ⟨g1, rfl, _, gl1⟩ := ST.out.some_ hlt
      have x0 := cell_keep (ST.out.cell hx) gl1 hbw
      have RR := Lib.hid (R.out.keep hbw)
      have b0 := cell_keep a0 al hbw; have b1 := cell_keep a1 al hbw; have b2 := cell_keep a2 al hbw; have bl := lt_keep al hbw
      have m0 := cell_keep l0 ll hbw; have m1 := cell_keep l1 ll hbw; have ml := lt_keep ll hbw
      have HB := Lib.hid hbw; have HSW := Lib.hid hbw.size
      clear hx hpr hbw hpa
      go_wp2_with fail
      refine (boLeaps_any W H A n c xs a b p _ RR.out HG.out HP64.out).mono ?_
      rintro e w2 ⟨A2, n2, c2, rfl, hst2, hb⟩
      have ST2 := Lib.hid hst2
      have SL2 := Lib.hid hst2.len
      have h64b : n2 ≤ 64 := by have := leapsL_len64 (a := a) (b := b) (q := p) (xs := xs) HN.out; have := hst2.len; omega
      replace PA := Lib.hid (PA.out.keep hb)
      replace htop := Nat.le_trans htop hb.size
      replace b0 := cell_keep b0 bl hb; replace b1 := cell_keep b1 bl hb; replace b2 := cell_keep b2 bl hb; replace bl := lt_keep bl hb
      replace m0 := cell_keep m0 ml hb; replace m1 := cell_keep m1 ml hb; replace ml := lt_keep ml hb
      replace HB := Lib.hid (HB.out.trans (hb.mono HB.out.size))
      have BB := Lib.hid (⟨b0, b1, b2⟩ : w2.cell? ⟨w.heap.size, 0, none⟩ = some (.int .i64 W) ∧ w2.cell? ⟨w.heap.size, 1, none⟩ = some (.int .i64 H) ∧ w2.cell? ⟨w.heap.size, 2, none⟩ = some (.slice A n c))
      clear hst2 hb x0 RR m0 m1 ml
      go_wp2_with fail
      go_loopw [5, 22] (fun v i wr => ∃ (j n' c' top : Nat) (A' : Option Addr), j ≤ n2 ∧ i = .int .i64 j ∧ v = .slice A' n' c' ∧ n' ≤ k * 64 + j ∧ PartsAt wr w1.heap.size top A' n' c' ((pairsTo W H xs a b k ++ pairsIn p ((leapsL W H xs a b p).take j)).map pairL) ∧ top ≤ wr.heap.size ∧ OwnI 3 wr w1.heap.size A2 n2 c2 (leapsL W H xs a b p) ∧ Below w1.heap.size w1 wr) (fun _ i _ => n2 - (intOf i).toNat)
      case atStart => exact ⟨0, n', c', top, A', by omega, rfl, rfl, by omega, (by rw [show pairsIn p ((leapsL W H xs a b p).take 0) = [] from rfl, List.append_nil]; exact PA.out), htop, ST2.out.lower HSW.out, HB.out⟩
      case round =>
        clear PA htop hn' b0 b1 b2 bl ST2 HB
        obtain ⟨j, n', c', top, A', hj, rfl, rfl, hn', hpa, htop, hst2, hbw⟩ := hrel
        have PA := Lib.hid hpa; have HB := Lib.hid hbw
        by_cases hlj : j < n2
        · obtain ⟨q, hy⟩ : ∃ q, (leapsL W H xs a b p)[j]? = some q := ⟨_, List.getElem?_eq_getElem (by rw [SL2.out]; exact hlj)⟩
          have HY := Lib.hid hy
          obtain ⟨g2, rfl, _, gl2⟩ := hst2.some_ hlj
          have y0 := hst2.cell hy
          have ST2 := Lib.hid hst2
          have HQ64 := Lib.hid (show 0 ≤ q ∧ q ≤ 64 by have := cellsL_rng (List.mem_filter.1 (List.mem_of_getElem? hy)).1; have := HN.out; omega)
          have hsw := Lib.hid hbw.size
          clear hy hpa hst2
          by_cases hpq : p < q
          · have HPQ := Lib.hid hpq
            have HV := Lib.hid (pairsIn_yes HY.out hpq)
            clear hbw y0
            have PA9 := Lib.hid (PA.out.keep (below_new (Below.refl _ _) (.cells #[.int .i64 p, .int .i64 q] 3)))
            have ST9 := Lib.hid (ST2.out.keep (below_new (Below.refl _ _) (.cells #[.int .i64 p, .int .i64 q] 3)))
            have OW9 := Lib.hid (own_two wr p q w1.heap.size hsw.out)
            have HPN : Hid (∀ z, (some ⟨wr.heap.size, 0, none⟩ : Option Addr) = some z → top ≤ z.block) := Lib.hid (fun z hz => by injection hz with hz; rw [← hz]; exact htop)
            have htop9 : top ≤ (wr.alloc (.cells #[.int .i64 p, .int .i64 q] 3)).heap.size := by simp; omega
            have hlo9 : w1.heap.size ≤ (wr.alloc (.cells #[.int .i64 p, .int .i64 q] 3)).heap.size := by have := hsw.out; simp; omega
            have hn9 : n' ≤ 100000 := by have := SL.out; have := n64; omega
            have y0 := ST2.out.cell HY.out
            go_wp2_with (at_builtin; refine wpList_appS3 (wr.heap.size + 1) (by simp) rfl (.tmp 29) (.tmp 33) rfl w1.heap.size top A' n' c' _ (some ⟨wr.heap.size, 0, none⟩) 2 2 [p, q] rfl PA9.out OW9.out HPN.out htop9 rfl hn9 hlo9 ?_; intro A7 c7 w7 hpa7 hb7 hk7)
            have PA7 := Lib.hid hpa7
            have ST7 := Lib.hid (hk7 _ _ _ _ _ ST9.out)
            have HB7 := Lib.hid (HB.out.trans ((below_new2 hsw.out).trans hb7))
            have hs7 := hb7.size
            obtain ⟨top7, ht7⟩ : ∃ top7, top7 = (wr.alloc (.cells #[.int .i64 p, .int .i64 q] 3)).heap.size := ⟨_, rfl⟩
            rw [← ht7] at hs7 PA7
            clear hpa7 hb7 hk7 ht7 htop9 hlo9 y0
            go_wp2
            go_roundw
            case rel => exact ⟨j + 1, n' + 1, c7, top7, A7, by omega, by go_num, rfl, by omega, (by rw [HV.out, ← List.append_assoc, List.map_append]; exact PA7.out), hs7, ST7.out, HB7.out⟩
            case measure => simp [intOf]; omega
          · have HV := Lib.hid (pairsIn_no HY.out hpq)
            clear hbw
            go_wp2
            go_roundw
            case rel => exact ⟨j + 1, n', c', top, A', by omega, by go_num, rfl, by omega, (by rw [HV.out]; exact PA.out), htop, ST2.out, HB.out⟩
            case measure => simp [intOf]; omega
        · have HE := Lib.hid (show pairsTo W H xs a b k ++ pairsIn p ((leapsL W H xs a b p).take j) = pairsTo W H xs a b (k + 1) by rw [List.take_of_length_le (by rw [SL2.out]; omega), pairsTo_succ HX.out])
          have jk : ¬ (j : Int) < (n2 : Int) := by omega
          clear hbw hpa hst2
          go_wp2
          go_roundw
          case rel => exact ⟨k + 1, n', c', top, A', by omega, by go_num, rfl, by omega, (by rw [← HE.out]; exact PA.out), htop, HB.out⟩
          case measure => simp [intOf]; omega
    · have HE := Lib.hid (show pairsTo W H xs a b k = pairsL W H xs a b from pairsL_all (by rw [SL.out]; omega))
      have HB := Lib.hid hbw
      have kn : ¬ (k : Int) < (n1 : Int) := by omega
      clear hbw hpa
      go_wp2
      go_ret
      exact ⟨A', n', c', rfl, ⟨top, by have h := PA.out.lower B.out.size; rw [HE.out] at h; exact h, htop⟩, B.out.trans (HB.out.mono B.out.size)⟩

set_option maxRecDepth 100000 in
set_option maxHeartbeats 4000000 in
theorem linesOn_any (W H : Int) (A : Option Addr) (n c : Nat) (xs : List Int) (a b : Int) (w : World) (ha : Rd w A n xs) (hg : goodB W H xs = true) (hl : leaperB a b = true) :
    Calls Tryz.prog 39 #[brd W H A n c, lpr a b] w fun e w' => ∃ A' n' c', e = .returned (.slice A' n' c') ∧ OwnN w' w.heap.size A' n' c' ((pairsL W H xs a b).map fun z => lnL W z.1 z.2) ∧ Below w.heap.size w w' := by
  obtain ⟨hW, hH, _, _⟩ := goodB_iff.1 hg
  have HN := Lib.hid (cells_le hW hH); have HW := Lib.hid hW
  have HG := Lib.hid hg; have HL := Lib.hid hl
  obtain ⟨i0, hi, hz0, hz1, hz2⟩ := info_parts infoN
  have HI := Lib.hid hi; have HZ0 := Lib.hid hz0; have HZ1 := Lib.hid hz1; have HZ2 := Lib.hid hz2
  clear hi hz0 hz1 hz2
  obtain ⟨W2, hW2⟩ : ∃ W2, W2 = (w.alloc (.cells #[.int .i64 W, .int .i64 H, .slice A n c] 31)).alloc (.cells #[.int .i64 a, .int .i64 b] 33) := ⟨_, rfl⟩
  have a0 : W2.cell? ⟨w.heap.size, 0, none⟩ = some (.int .i64 W) := by rw [hW2]; go_simp
  have a1 : W2.cell? ⟨w.heap.size, 1, none⟩ = some (.int .i64 H) := by rw [hW2]; go_simp
  have a2 : W2.cell? ⟨w.heap.size, 2, none⟩ = some (.slice A n c) := by rw [hW2]; go_simp
  have l0 : W2.cell? ⟨w.heap.size + 1, 0, none⟩ = some (.int .i64 a) := by rw [hW2]; go_simp
  have l1 : W2.cell? ⟨w.heap.size + 1, 1, none⟩ = some (.int .i64 b) := by rw [hW2]; go_simp
  have al : w.heap.size < W2.heap.size := by rw [hW2]; simp; omega
  have ll : w.heap.size + 1 < W2.heap.size := by rw [hW2]; simp
  have B := Lib.hid (show Below w.heap.size w W2 by rw [hW2]; exact below_new (below_new (Below.refl _ _) _) _)
  have R := Lib.hid (ha.keep B.out)
  clear ha hg hl hW hH
  go_enter Tryz.func39, Tryz.ntmps39
  go_wp2_with fail
  rw [← hW2]
  clear hW2
  refine (cellsThere_any W H A n c xs _ R.out HG.out).mono ?_
  rintro e w1 ⟨A1, n1, c1, rfl, hst, hb⟩
  replace R := Lib.hid (R.out.keep hb)
  replace a0 := cell_keep a0 al hb; replace a1 := cell_keep a1 al hb; replace a2 := cell_keep a2 al hb; replace al := lt_keep al hb
  replace l0 := cell_keep l0 ll hb; replace l1 := cell_keep l1 ll hb; replace ll := lt_keep ll hb
  replace B := Lib.hid (below_next B.out hb)
  have ST := Lib.hid hst
  have SL := Lib.hid hst.len
  have n64 : n1 ≤ 64 := by have := cellsL_len64 (xs := xs) HN.out; have := hst.len; omega
  clear hst hb
  go_wp2_with fail
  go_loopw [5, 13] (fun v i wr => ∃ (k n' c' top : Nat) (A' : Option Addr), k ≤ n1 ∧ i = .int .i64 k ∧ v = .slice A' n' c' ∧ n' ≤ k * 64 ∧ OwnN wr w1.heap.size A' n' c' ((pairsTo W H xs a b k).map fun z => lnL W z.1 z.2) ∧ top ≤ wr.heap.size ∧ Below w1.heap.size w1 wr) (fun _ i _ => n1 - (intOf i).toNat)
  case atStart => exact ⟨0, 0, 0, 0, none, by omega, rfl, rfl, by omega, OwnK.none_ _ _ _ _ _, by omega, Below.refl _ _⟩
  case round =>
    obtain ⟨k, n', c', top, A', hk, rfl, rfl, hn', hpa, htop, hbw⟩ := hrel
    have PA := Lib.hid hpa
    by_cases hlt : k < n1
    · obtain ⟨p, hx⟩ : ∃ p, (cellsL W H xs)[k]? = some p := ⟨_, List.getElem?_eq_getElem (by rw [SL.out]; exact hlt)⟩
      have HX := Lib.hid hx
      have hpr := cellsL_rng (List.mem_of_getElem? hx)
      have HPR := Lib.hid hpr
      have HP64 := Lib.hid (show 0 ≤ p ∧ p ≤ 64 by have := HN.out; omega)
      obtain ⟨g1, rfl, _, gl1⟩ := ST.out.some_ hlt
      have x0 := cell_keep (ST.out.cell hx) gl1 hbw
      have RR := Lib.hid (R.out.keep hbw)
      have b0 := cell_keep a0 al hbw; have b1 := cell_keep a1 al hbw; have b2 := cell_keep a2 al hbw; have bl := lt_keep al hbw
      have m0 := cell_keep l0 ll hbw; have m1 := cell_keep l1 ll hbw; have ml := lt_keep ll hbw
      have HB := Lib.hid hbw; have HSW := Lib.hid hbw.size
      clear hx hpr hbw hpa
      go_wp2_with fail
      refine (leapCells_any W H A n c xs a b p _ RR.out HG.out HL.out HPR.out).mono ?_
      rintro e w2 ⟨A2, n2, c2, rfl, hst2, hb⟩
      have ST2 := Lib.hid hst2
      have SL2 := Lib.hid hst2.len
      have h64b : n2 ≤ 64 := by have := leapsL_len64 (a := a) (b := b) (q := p) (xs := xs) HN.out; have := hst2.len; omega
      replace PA := Lib.hid (PA.out.keep hb)
      replace htop := Nat.le_trans htop hb.size
      replace b0 := cell_keep b0 bl hb; replace b1 := cell_keep b1 bl hb; replace b2 := cell_keep b2 bl hb; replace bl := lt_keep bl hb
      replace m0 := cell_keep m0 ml hb; replace m1 := cell_keep m1 ml hb; replace ml := lt_keep ml hb
      replace HB := Lib.hid (HB.out.trans (hb.mono HB.out.size))
      have BB := Lib.hid (⟨b0, b1, b2⟩ : w2.cell? ⟨w.heap.size, 0, none⟩ = some (.int .i64 W) ∧ w2.cell? ⟨w.heap.size, 1, none⟩ = some (.int .i64 H) ∧ w2.cell? ⟨w.heap.size, 2, none⟩ = some (.slice A n c))
      clear hst2 hb x0 RR m0 m1 ml
      go_wp2_with fail
      go_loopw [5, 22] (fun v i wr => ∃ (j n' c' top : Nat) (A' : Option Addr), j ≤ n2 ∧ i = .int .i64 j ∧ v = .slice A' n' c' ∧ n' ≤ k * 64 + j ∧ OwnN wr w1.heap.size A' n' c' ((pairsTo W H xs a b k ++ pairsIn p ((leapsL W H xs a b p).take j)).map fun z => lnL W z.1 z.2) ∧ top ≤ wr.heap.size ∧ OwnI 3 wr w1.heap.size A2 n2 c2 (leapsL W H xs a b p) ∧ Below w1.heap.size w1 wr) (fun _ i _ => n2 - (intOf i).toNat)
      case atStart => exact ⟨0, n', c', top, A', by omega, rfl, rfl, by omega, (by rw [show pairsIn p ((leapsL W H xs a b p).take 0) = [] from rfl, List.append_nil]; exact PA.out), htop, ST2.out.lower HSW.out, HB.out⟩
      case round =>
        clear PA htop hn' b0 b1 b2 bl ST2 HB
        obtain ⟨j, n', c', top, A', hj, rfl, rfl, hn', hpa, htop, hst2, hbw⟩ := hrel
        have PA := Lib.hid hpa; have HB := Lib.hid hbw
        by_cases hlj : j < n2
        · obtain ⟨q, hy⟩ : ∃ q, (leapsL W H xs a b p)[j]? = some q := ⟨_, List.getElem?_eq_getElem (by rw [SL2.out]; exact hlj)⟩
          have HY := Lib.hid hy
          obtain ⟨g2, rfl, _, gl2⟩ := hst2.some_ hlj
          have y0 := hst2.cell hy
          have ST2 := Lib.hid hst2
          have HQ64 := Lib.hid (show 0 ≤ q ∧ q ≤ 64 by have := cellsL_rng (List.mem_filter.1 (List.mem_of_getElem? hy)).1; have := HN.out; omega)
          have hsw := Lib.hid hbw.size
          clear hy hpa hst2
          by_cases hpq : p < q
          · have HPQ := Lib.hid hpq
            have HV := Lib.hid (pairsIn_yes HY.out hpq)
            have d0 := cell_keep a0 al hbw; have d1 := cell_keep a1 al hbw; have d2 := cell_keep a2 al hbw
            have hn9 : n' + 1 ≤ 1000000 := by have := n64; omega
            clear hbw
            go_wp2_with fail
            refine (lineOf_any W H A n c p q _ HW.out HP64.out HQ64.out).mono ?_
            rintro e w5 ⟨rfl, hb⟩
            have PA9 := Lib.hid ((PA.out.keep hb).keep (below_new (Below.refl _ _) (.cells #[.int .i64 (lnL W p q).1.1, .int .i64 (lnL W p q).1.2, .int .i64 (lnL W p q).2.1, .int .i64 (lnL W p q).2.2] 68)))
            have ST9 := Lib.hid ((ST2.out.keep hb).keep (below_new (Below.refl _ _) (.cells #[.int .i64 (lnL W p q).1.1, .int .i64 (lnL W p q).1.2, .int .i64 (lnL W p q).2.1, .int .i64 (lnL W p q).2.2] 68)))
            have HB9 := Lib.hid ((HB.out.trans (hb.mono hsw.out)).trans (below_new2 (o := .cells #[.int .i64 (lnL W p q).1.1, .int .i64 (lnL W p q).1.2, .int .i64 (lnL W p q).2.1, .int .i64 (lnL W p q).2.2] 68) (Nat.le_trans hsw.out hb.size)))
            have hlo9 : w1.heap.size ≤ (w5.alloc (.cells #[.int .i64 (lnL W p q).1.1, .int .i64 (lnL W p q).1.2, .int .i64 (lnL W p q).2.1, .int .i64 (lnL W p q).2.2] 68)).heap.size := HB9.out.size
            have HY4 : ∀ i u, ([lnL W p q].flatMap encN)[i]? = some u → (w5.alloc (.cells #[.int .i64 (lnL W p q).1.1, .int .i64 (lnL W p q).1.2, .int .i64 (lnL W p q).2.1, .int .i64 (lnL W p q).2.2] 68)).cell? (Addr.add ⟨w5.heap.size, 0, none⟩ i) = some u := fun i u hj => by
              rcases i with _ | _ | _ | _ | i
              · injection hj with hj; subst hj; go_simp
              · injection hj with hj; subst hj; go_simp
              · injection hj with hj; subst hj; go_simp
              · injection hj with hj; subst hj; go_simp
              · simp [encN] at hj
            clear hb d0 d1 d2 y0 htop
            go_wp2_with (at_builtin; refine wpList_appK rfl (.tmp 29) (.tmp 34) 70 rfl i0 (.agg #[.int .i64 0, .int .i64 0, .int .i64 0, .int .i64 0]) 32 Tryz.underlying70 HI.out HZ0.out HZ1.out HZ2.out rfl (by decide) (by decide) encN_len encN_one [lnL W p q] ⟨w5.heap.size, 0, none⟩ 1 1 (by rfl) PA9.out (by rfl) rfl HY4 hn9 hlo9 ?_; intro A7 c7 w7 hpa7 hg7 hb7)
            have PA7 := Lib.hid hpa7
            have ST7 := Lib.hid (ST9.out.other hg7 (fun x hx9 => by
              injection hx9 with hx9
              subst hx9
              rcases A' with _ | b
              · simp
              · have := rows_apart (by decide : 3 ≠ 68) ST9.out PA9.out.2
                simpa using this))
            have HB7 := Lib.hid (HB9.out.trans hb7)
            have hs7 : 0 ≤ w7.heap.size := Nat.zero_le _
            clear hpa7 hb7 hg7
            go_wp2
            go_roundw
            case rel => exact ⟨j + 1, n' + 1, c7, 0, A7, by omega, by go_num, rfl, by omega, (by rw [HV.out, ← List.append_assoc, List.map_append]; exact PA7.out), hs7, ST7.out, HB7.out⟩
            case measure => simp [intOf]; omega
          · have HV := Lib.hid (pairsIn_no HY.out hpq)
            clear hbw
            go_wp2
            go_roundw
            case rel => exact ⟨j + 1, n', c', top, A', by omega, by go_num, rfl, by omega, (by rw [HV.out]; exact PA.out), htop, ST2.out, HB.out⟩
            case measure => simp [intOf]; omega
        · have HE := Lib.hid (show pairsTo W H xs a b k ++ pairsIn p ((leapsL W H xs a b p).take j) = pairsTo W H xs a b (k + 1) by rw [List.take_of_length_le (by rw [SL2.out]; omega), pairsTo_succ HX.out])
          have jk : ¬ (j : Int) < (n2 : Int) := by omega
          clear hbw hpa hst2
          go_wp2
          go_roundw
          case rel => exact ⟨k + 1, n', c', top, A', by omega, by go_num, rfl, by omega, (by rw [← HE.out]; exact PA.out), htop, HB.out⟩
          case measure => simp [intOf]; omega
    · have HE := Lib.hid (show pairsTo W H xs a b k = pairsL W H xs a b from pairsL_all (by rw [SL.out]; omega))
      have HB := Lib.hid hbw
      have kn : ¬ (k : Int) < (n1 : Int) := by omega
      clear hbw hpa
      go_wp2
      go_ret
      exact ⟨_, _, _, rfl, by have h := PA.out.lower B.out.size; rw [HE.out] at h; exact h, B.out.trans (HB.out.mono B.out.size)⟩

end Go.Proofs.YtbpgkigoboobeaaGreat

namespace Go.Proofs.YtbpgkigoboobeaaGreat
open Go.RowKit

def okCl (W H : Int) (xs : List Int) (a b f t : Int) : Bool := twoV W H xs a b && (lenB2 [f, t] && pathB W H xs a b [f, t])
def crossedP (W H : Int) (xs : List Int) (a b f t : Int) : List (Int × Int) := (pairsL W H xs a b).filter fun z => doB W z.1 z.2 f t
def crossedV (W H : Int) (xs : List Int) (a b f t : Int) : List (List Int) := if okCl W H xs a b f t then (crossedP W H xs a b f t).map pairL else []
theorem crossedV_small (W H : Int) (xs : List Int) (a b f t : Int) : (crossedV W H xs a b f t).length ≤ 5000 ∧ ∀ p ∈ crossedV W H xs a b f t, p.length ≤ 64 := by
  unfold crossedV
  split
  · rename_i h
    have hg : goodB W H xs = true := by simp only [okCl, Bool.and_eq_true] at h; exact two_gK h.1
    obtain ⟨hW, hH, _, _⟩ := goodB_iff.1 hg
    refine ⟨?_, fun p hp => ?_⟩
    · have h1 := pairsL_len (a := a) (b := b) (xs := xs) (cells_le hW hH)
      have h2 := List.length_filter_le (fun z : Int × Int => doB W z.1 z.2 f t) (pairsL W H xs a b)
      rw [List.length_map, crossedP]; omega
    · obtain ⟨q, _, rfl⟩ := List.mem_map.1 hp
      simp [pairL]
  · exact ⟨by simp, fun p hp => by simp at hp⟩
/-- Slices with their pairs: what a selection of them reads. -/
abbrev ZP := SlV × (Int × Int)
theorem infoIS : (Tryz.prog.info? 22).map (fun i => (i.zero, i.size, i.bytes)) = some (some (.slice none 0 0), 1, 24) := by kernel_rfl
theorem sel_parts {w : World} {lo lo2 top : Nat} {A : Option Addr} {n c : Nat} {zs : List ZP} {g : ZP → Bool} (hlo : lo ≤ lo2)
    (hK : OwnK encS 1 22 w lo2 A n c ((zs.filter g).map (·.1))) (hI : ∀ z ∈ zs, OwnI 3 w lo z.1.1 z.1.2.1 z.1.2.2 (pairL z.2))
    (hO : zs.Pairwise fun z u => ∀ x y, z.1.1 = some x → u.1.1 = some y → x.block < y.block) (hT : ∀ z ∈ zs, ∀ x, z.1.1 = some x → x.block < top) :
    PartsAt w lo top A n c (((zs.filter g).map (·.2)).map pairL) := by
  refine ⟨(zs.filter g).map (·.1), hK.lower hlo, by rw [List.length_map, List.length_map, ← hK.len, List.length_map], fun i v p hv hp => ?_, fun i j v u hij hv hu => ?_, fun i v hv => ?_⟩
  · rw [List.getElem?_map] at hv hp
    rw [List.getElem?_map] at hp
    cases hz : (zs.filter g)[i]? with
    | none => rw [hz] at hv; cases hv
    | some z =>
      rw [hz] at hv hp
      injection hv with hv; injection hp with hp
      subst hv hp
      exact hI z (List.mem_filter.1 (List.mem_of_getElem? hz)).1
  · rw [List.getElem?_map] at hv hu
    cases hz : (zs.filter g)[i]? with
    | none => rw [hz] at hv; cases hv
    | some z =>
      cases hy : (zs.filter g)[j]? with
      | none => rw [hy] at hu; cases hu
      | some y =>
        rw [hz] at hv; rw [hy] at hu
        injection hv with hv; injection hu with hu
        subst hv hu
        obtain ⟨b1, e1⟩ := List.getElem?_eq_some_iff.1 hz
        obtain ⟨b2, e2⟩ := List.getElem?_eq_some_iff.1 hy
        have := (List.pairwise_iff_getElem.1 (hO.filter g)) i j b1 b2 hij
        rw [e1, e2] at this
        exact this
  · rw [List.getElem?_map] at hv
    cases hz : (zs.filter g)[i]? with
    | none => rw [hz] at hv; cases hv
    | some z =>
      rw [hz] at hv
      injection hv with hv
      subst hv
      exact hT z (List.mem_filter.1 (List.mem_of_getElem? hz)).1
theorem zip_sel : ∀ (vs : List SlV) (ps : List (Int × Int)) (g : Int × Int → Bool), vs.length = ps.length → (((vs.zip ps).filter fun z => g z.2).map (·.2)) = ps.filter g
  | [], [], _, _ => rfl
  | v :: vs, p :: ps, g, h => by
    have h2 := zip_sel vs ps g (by simpa using h)
    rw [List.zip_cons_cons, List.filter_cons, List.filter_cons]
    split <;> rename_i h3
    · rw [List.map_cons, h2]
    · rw [h2]
  | [], p :: ps, _, h => by simp at h
  | v :: vs, [], _, h => by simp at h
theorem take_yes {α : Type} {zs : List α} {g : α → Bool} {k : Nat} {z : α} (h : zs[k]? = some z) (hg : g z = true) : (zs.take (k + 1)).filter g = (zs.take k).filter g ++ [z] := by
  rw [List.take_add_one, h, List.filter_append]; simp [hg]
theorem take_no {α : Type} {zs : List α} {g : α → Bool} {k : Nat} {z : α} (h : zs[k]? = some z) (hg : g z = false) : (zs.take (k + 1)).filter g = (zs.take k).filter g := by
  rw [List.take_add_one, h, List.filter_append]; simp [hg]

set_option maxRecDepth 100000 in
set_option maxHeartbeats 4000000 in
theorem spec_CrossedLeaps (W H : Int) (A : Option Addr) (n c : Nat) (xs : List Int) (a b f t : Int) (w : World) (ha : Rd w A n xs) :
    Calls Tryz.prog 16 #[brd W H A n c, lpr a b, .int .i64 f, .int .i64 t] w fun e w' => ∃ A' n' c', e = .returned (.tuple #[.slice A' n' c', .bool (okCl W H xs a b f t)]) ∧ OwnSS w' w.heap.size w'.heap.size A' n' c' (crossedV W H xs a b f t) ∧ Below w.heap.size w w' := by
  by_cases ht : twoV W H xs a b = true
  · by_cases hk : (lenB2 [f, t] && pathB W H xs a b [f, t]) = true
    · go_enter Tryz.func16, Tryz.ntmps16
      go_wp2_with fail
      refine (boTwoV_any _ _ _ _ _ _ _ _ _ ((ha.alloc _).alloc _)).mono ?_
      rw [ht]
      rintro e wv ⟨rfl, hb⟩
      have hbx0 := below_box hb
      have a0 : wv.cell? ⟨w.heap.size, 0, none⟩ = some (.int .i64 W) := by simpa using newbox hbx0 0
      have a1 : wv.cell? ⟨w.heap.size, 1, none⟩ = some (.int .i64 H) := by simpa using newbox hbx0 1
      have a2 : wv.cell? ⟨w.heap.size, 2, none⟩ = some (.slice A n c) := by simpa using newbox hbx0 2
      have al : w.heap.size < wv.heap.size := by simpa using newbox_lt hbx0
      have l0 : wv.cell? ⟨w.heap.size + 1, 0, none⟩ = some (.int .i64 a) := by simpa using newbox hb 0
      have l1 : wv.cell? ⟨w.heap.size + 1, 1, none⟩ = some (.int .i64 b) := by simpa using newbox hb 1
      have ll : w.heap.size + 1 < wv.heap.size := by simpa using newbox_lt hb
      have B := Lib.hid (below_box hbx0)
      clear hb hbx0
      go_wp2_with fail
      refine (crLeap_any W H A n c xs a b _ _ _ [f, t] _ ((ha.keep B.out).alloc _) (own_two wv f t wv.heap.size (Nat.le_refl _)).rd (two_gK ht)).mono ?_
      rw [hk]
      rintro e wv ⟨rfl, hb9⟩
      have hb := below_box hb9
      clear hb9
      replace a0 := cell_keep a0 al hb
      replace a1 := cell_keep a1 al hb
      replace a2 := cell_keep a2 al hb
      replace al := lt_keep al hb
      replace l0 := cell_keep l0 ll hb
      replace l1 := cell_keep l1 ll hb
      replace ll := lt_keep ll hb
      replace B := Lib.hid (below_next B.out hb)
      clear hb
      have HT := Lib.hid ht; have HK := Lib.hid hk
      have HOK := Lib.hid (show okCl W H xs a b f t = true by rw [okCl, ht, hk]; rfl)
      have hgd := two_gK ht
      obtain ⟨hW, hH, _, _⟩ := goodB_iff.1 hgd
      have HW := Lib.hid hW; have HN := Lib.hid (cells_le hW hH)
      have hp64 := path_64 hgd (show pathB W H xs a b [f, t] = true by simp only [Bool.and_eq_true] at hk; exact hk.2)
      have HF64 := Lib.hid (show 0 ≤ f ∧ f ≤ 64 by have := hp64 f (by simp); omega)
      have HT64 := Lib.hid (show 0 ≤ t ∧ t ≤ 64 by have := hp64 t (by simp); omega)
      have HGD := Lib.hid hgd
      clear hk hW hH hp64 hgd
      go_wp2_with fail
      refine (crLeaps_any W H A n c xs a b _ (ha.keep B.out) HGD.out (two_leaper HT.out)).mono ?_
      rintro e w3 ⟨A1, n1, c1, rfl, ⟨top, hpa, htop⟩, hb⟩
      have HSZ := Lib.hid B.out.size
      replace a0 := cell_keep a0 al hb; replace a1 := cell_keep a1 al hb; replace a2 := cell_keep a2 al hb; replace al := lt_keep al hb
      replace B := Lib.hid (below_next B.out hb)
      obtain ⟨vs, h1, h2, h3, h4, h5⟩ := hpa
      have hvl : vs.length = (pairsL W H xs a b).length := by have := h1.len; rw [List.length_map] at h2; omega
      obtain ⟨zs, hzs⟩ : ∃ zs : List ZP, zs = vs.zip (pairsL W H xs a b) := ⟨_, rfl⟩
      have hzl : zs.length = n1 := by rw [hzs, List.length_zip, hvl, Nat.min_self]; rw [List.length_map] at h2; exact h2
      have hz9 : ∀ (k : Nat) z, zs[k]? = some z → vs[k]? = some z.1 ∧ (pairsL W H xs a b)[k]? = some z.2 := fun k z hz => by
        rw [hzs, List.getElem?_zip_eq_some] at hz; exact hz
      have HZI := Lib.hid (show ∀ z ∈ zs, OwnI 3 w3 w.heap.size z.1.1 z.1.2.1 z.1.2.2 (pairL z.2) from fun z hz => by
        obtain ⟨k, hk⟩ := List.mem_iff_getElem?.1 hz
        obtain ⟨e1, e2⟩ := hz9 k z hk
        exact (h3 k z.1 (pairL z.2) e1 (by rw [List.getElem?_map, e2]; rfl)).lower (by have := HSZ.out; omega))
      have HZO := Lib.hid (show zs.Pairwise (fun z u => ∀ x y, z.1.1 = some x → u.1.1 = some y → x.block < y.block) from by
        rw [List.pairwise_iff_getElem]
        intro i j hi hj hij
        have e1 := hz9 i _ (List.getElem?_eq_getElem hi)
        have e2 := hz9 j _ (List.getElem?_eq_getElem hj)
        exact h4 i j _ _ hij e1.1 e2.1)
      have HZT := Lib.hid (show ∀ z ∈ zs, ∀ x, z.1.1 = some x → x.block < top from fun z hz => by
        obtain ⟨k, hk⟩ := List.mem_iff_getElem?.1 hz
        exact h5 k z.1 (hz9 k z hk).1)
      have HZV := Lib.hid (show ((zs.filter fun z => doB W z.2.1 z.2.2 f t).map (·.2)) = crossedP W H xs a b f t by rw [hzs, zip_sel vs _ (fun z => doB W z.1 z.2 f t) hvl]; rfl)
      have HZM := Lib.hid (show ∀ z ∈ zs, z.2 ∈ pairsL W H xs a b from fun z hz => by
        obtain ⟨k, hk⟩ := List.mem_iff_getElem?.1 hz
        exact List.mem_of_getElem? (hz9 k z hk).2)
      have HZ1 := Lib.hid (show ∀ (k : Nat) z, zs[k]? = some z → vs[k]? = some z.1 from fun k z hz => (hz9 k z hz).1)
      have HLV := Lib.hid h1
      have HZL := Lib.hid hzl
      have n1b : n1 ≤ 4096 := by rw [List.length_map] at h2; have := pairsL_len (a := a) (b := b) (xs := xs) HN.out; omega
      obtain ⟨i0, hi, hz0, hz1, hz2⟩ := info_parts infoIS
      have HI := Lib.hid hi; have HZ0 := Lib.hid hz0; have HZ2 := Lib.hid hz1; have HZ3 := Lib.hid hz2
      clear hb hzs hzl hz9 h1 h2 h3 h4 h5 hvl hi hz0 hz1 hz2 l0 l1 ll htop
      go_wp2
      go_loopw [10, 30] (fun v i wr => ∃ (k n' c' : Nat) (A' : Option Addr), k ≤ n1 ∧ i = .int .i64 k ∧ v = .slice A' n' c' ∧ n' ≤ k ∧ OwnK encS 1 22 wr w3.heap.size A' n' c' (((zs.take k).filter fun z => doB W z.2.1 z.2.2 f t).map (·.1)) ∧ Below w3.heap.size w3 wr) (fun _ i _ => n1 - (intOf i).toNat)
      case atStart => exact ⟨0, 0, 0, none, Nat.zero_le _, rfl, rfl, Nat.le_refl _, OwnK.none_ _ _ _ _ _, Below.refl _ _⟩
      case round =>
        obtain ⟨k, n', c', A', hk, rfl, rfl, hn', hown, hbw⟩ := hrel
        have HO := Lib.hid hown; have HB := Lib.hid hbw
        by_cases hlt : k < n1
        · obtain ⟨⟨⟨V, m, cc⟩, x, y⟩, hz⟩ : ∃ z, zs[k]? = some z := ⟨_, List.getElem?_eq_getElem (by rw [HZL.out]; exact hlt)⟩
          have HZ := Lib.hid hz
          have hmz := List.mem_of_getElem? hz
          have hio := HZI.out _ hmz
          have hpm := pairsL_mem HN.out (HZM.out _ hmz)
          simp only at hio hpm
          have hm2 : m = 2 := by have := hio.len; simpa [pairL] using this.symm
          subst hm2
          obtain ⟨gz, rfl, _, gzl⟩ := hio.some_ (k := 0) (by omega)
          have x0 := cell_keep (hio.cell (k := 0) (x := x) rfl) gzl hbw
          have y0 := cell_keep (hio.cell (k := 1) (x := y) rfl) gzl hbw
          have zl := lt_keep gzl hbw
          obtain ⟨g1, rfl, _, gl1⟩ := HLV.out.some_ hlt
          have v0 := HLV.out.cell (enc := encS) (k := 1) (j := 0) (fun _ => rfl) (HZ1.out k _ hz) (show (encS (some ⟨gz, 0, none⟩, 2, cc))[0]? = some (.slice (some ⟨gz, 0, none⟩) 2 cc) from rfl)
          rw [show k * 1 + 0 = k by omega] at v0
          replace v0 := cell_keep v0 gl1 hbw
          have HX64 := Lib.hid (show 0 ≤ x ∧ x ≤ 64 by have := HN.out; omega)
          have HY64 := Lib.hid (show 0 ≤ y ∧ y ≤ 64 by have := HN.out; omega)
          have b0 := cell_keep a0 al hbw; have b1 := cell_keep a1 al hbw; have b2 := cell_keep a2 al hbw; have bl := lt_keep al hbw
          have hsw := Lib.hid hbw.size
          have k0 : (0 : Int) ≤ (k : Int) := by omega
          have kn : (k : Int) < (n1 : Int) := by omega
          clear hz hmz hio hpm hown hbw gzl gl1
          cases hd : doB W x y f t with
          | true =>
            have HD := Lib.hid hd
            have HV := Lib.hid (show ((zs.take (k + 1)).filter fun z => doB W z.2.1 z.2.2 f t) = ((zs.take k).filter fun z => doB W z.2.1 z.2.2 f t) ++ [((some ⟨gz, 0, none⟩, 2, cc), x, y)] from take_yes HZ.out hd)
            clear hd
            go_wp2_with fail
            refine wp_region_held_drew (S := fun w' => w'.cell? ⟨w.heap.size, 0, none⟩ = some (.int .i64 W) ∧ w'.cell? ⟨w.heap.size, 1, none⟩ = some (.int .i64 H) ∧ w'.cell? ⟨w.heap.size, 2, none⟩ = some (.slice A n c) ∧ w'.cell? ⟨gz, 0, none⟩ = some (.int .i64 x) ∧ w'.cell? ⟨gz, 1, none⟩ = some (.int .i64 y)) (by kernel_rfl) ?_ (fun hHeld => ?_)
            · (try dsimp only)
              exact ⟨b0, b1, b2, x0, y0⟩
            refine wpAnyH_take (i := 0) (oi := ⟨_, _, _, _, _, _⟩) (v := ?_) rfl (by kernel_rfl) (by kernel_rfl) (by kernel_rfl) (fun _ _ _ h => h) (Or.inl ⟨by rfl, ?_⟩) (by assumption) ?_
            rotate_left
            · intro w hSw
              (try dsimp only at hSw)
              go_simp
              (try with_reducible rfl)
            (try simp only [Act.put, List.setIfInBounds_toArray, List.set_cons_zero, List.set_cons_succ])
            refine wpAnyH_take (i := 1) (oi := ⟨_, _, _, _, _, _⟩) (v := ?_) rfl (by kernel_rfl) (by kernel_rfl) (by kernel_rfl) (fun _ _ _ h => h) (Or.inl ⟨by rfl, ?_⟩) (by assumption) ?_
            rotate_left
            · intro w hSw
              (try dsimp only at hSw)
              go_simp
              (try with_reducible rfl)
            (try simp only [Act.put, List.setIfInBounds_toArray, List.set_cons_zero, List.set_cons_succ])
            refine wpAnyH_take (i := 2) (oi := ⟨_, _, _, _, _, _⟩) (v := ?_) rfl (by kernel_rfl) (by kernel_rfl) (by kernel_rfl) (fun _ _ _ h => h) (Or.inl ⟨by rfl, ?_⟩) (by assumption) ?_
            rotate_left
            · intro w hSw
              (try dsimp only at hSw)
              go_simp
              (try with_reducible rfl)
            (try simp only [Act.put, List.setIfInBounds_toArray, List.set_cons_zero, List.set_cons_succ])
            refine wpAnyH_take (i := 3) (oi := ⟨_, _, _, _, _, _⟩) (v := ?_) rfl (by kernel_rfl) (by kernel_rfl) (by kernel_rfl) (fun _ _ _ h => h) (Or.inl ⟨by rfl, ?_⟩) (by assumption) ?_
            rotate_left
            · intro w hSw
              (try dsimp only at hSw)
              go_simp
              (try with_reducible rfl)
            (try simp only [Act.put, List.setIfInBounds_toArray, List.set_cons_zero, List.set_cons_succ])
            refine wpAnyH_take (i := 4) (oi := ⟨_, _, _, _, _, _⟩) (v := ?_) rfl (by kernel_rfl) (by kernel_rfl) (by kernel_rfl) (fun _ _ _ h => h) (Or.inl ⟨by rfl, ?_⟩) (by assumption) ?_
            rotate_left
            · intro w hSw
              (try dsimp only at hSw)
              go_simp
              (try with_reducible rfl)
            (try simp only [Act.put, List.setIfInBounds_toArray, List.set_cons_zero, List.set_cons_succ])
            refine wpAnyH_take (i := 5) (oi := ⟨_, _, _, _, _, _⟩) (v := ?_) rfl (by kernel_rfl) (by kernel_rfl) (by kernel_rfl) (fun _ _ _ h => h) (Or.inl ⟨by rfl, ?_⟩) (by assumption) ?_
            rotate_left
            · intro w hSw
              (try dsimp only at hSw)
              go_simp
              (try with_reducible rfl)
            (try simp only [Act.put, List.setIfInBounds_toArray, List.set_cons_zero, List.set_cons_succ])
            refine wpAnyH_take (i := 6) (oi := ⟨_, _, _, _, _, _⟩) (v := ?_) rfl (by kernel_rfl) (by kernel_rfl) (by kernel_rfl) (fun _ _ _ h => h) (Or.inl ⟨by rfl, ?_⟩) (by assumption) ?_
            rotate_left
            · intro w hSw
              (try dsimp only at hSw)
              go_simp
              (try with_reducible rfl)
            (try simp only [Act.put, List.setIfInBounds_toArray, List.set_cons_zero, List.set_cons_succ])
            refine wpAnyH_take (i := 7) (oi := ⟨_, _, _, _, _, _⟩) (v := ?_) rfl (by kernel_rfl) (by kernel_rfl) (by kernel_rfl) (fun _ _ _ h => h) (Or.inl ⟨by rfl, ?_⟩) (by assumption) ?_
            rotate_left
            · intro w hSw
              (try dsimp only at hSw)
              go_simp
              (try with_reducible rfl)
            (try simp only [Act.put, List.setIfInBounds_toArray, List.set_cons_zero, List.set_cons_succ])
            refine wpAnyH_take (i := 8) (oi := ⟨_, _, _, _, _, _⟩) (v := ?_) rfl (by kernel_rfl) (by kernel_rfl) (by kernel_rfl) (fun _ _ _ h => h) (Or.inl ⟨by rfl, ?_⟩) (by assumption) ?_
            rotate_left
            · intro w hSw
              (try dsimp only at hSw)
              go_simp
              (try with_reducible rfl)
            (try simp only [Act.put, List.setIfInBounds_toArray, List.set_cons_zero, List.set_cons_succ])
            refine wpAnyH_ready (rs := [9]) (by kernel_rfl) (by simp) ?_
            refine AllReadyH.cons (o := ⟨_, _, _, _, _, _⟩) rfl (fun K hK => ?_) AllReadyH.nil
            go_simp
            (go_at_call 36; refine (crDo_any W H A n c x y f t _ HW.out HX64.out HY64.out HF64.out HT64.out).mono ?_; rw [HD.out]; rintro e wz ⟨rfl, hb⟩; (repeat (first | replace hb := below_undrew hb | replace hb := below_undrewN hb)); replace b0 := cell_keep b0 bl hb; replace b1 := cell_keep b1 bl hb; replace b2 := cell_keep b2 bl hb; replace bl := lt_keep bl hb; replace x0 := cell_keep x0 zl hb; replace y0 := cell_keep y0 zl hb; replace zl := lt_keep zl hb; replace HO := Lib.hid (HO.out.keep hb); replace HB := Lib.hid (below_next HB.out hb); replace hsw := Lib.hid (Nat.le_trans hsw.out hb.size); clear hb)
            (try go_wp2_with fail)
            refine hK.out _ _ ?_ (fun hHeld => ?_)
            · (try dsimp only)
              exact ⟨b0, b1, b2, x0, y0⟩
            clear hK K
            (try simp only [Act.put, List.setIfInBounds_toArray, List.set_cons_zero, List.set_cons_succ])
            refine wpAnyH_done (by kernel_rfl) ?_ _
            have HOA := Lib.hid (HO.out.keep (below_new (Below.refl _ _) (.cells #[.slice (some ⟨gz, 0, none⟩) 2 cc] 22)))
            obtain ⟨WQ, hWQ⟩ : ∃ WQ, WQ = wz := ⟨_, rfl⟩
            subst hWQ
            have HY9 : ∀ j u, ([((some ⟨gz, 0, none⟩, 2, cc) : SlV)].flatMap encS)[j]? = some u → (WQ.alloc (.cells #[.slice (some ⟨gz, 0, none⟩) 2 cc] 22)).cell? (Addr.add ⟨WQ.heap.size, 0, none⟩ j) = some u := fun j u hj => by
              rcases j with _ | j
              · injection hj with hj; subst hj; go_simp
              · simp [encS] at hj
            have hlo9 : w3.heap.size ≤ (WQ.alloc (.cells #[.slice (some ⟨gz, 0, none⟩) 2 cc] 22)).heap.size := by have := hsw.out; simp; omega
            have HB9 := Lib.hid (HB.out.trans (below_new2 (o := .cells #[.slice (some ⟨gz, 0, none⟩) 2 cc] 22) hsw.out))
            clear b0 b1 b2 bl x0 y0 zl v0
            go_wp2_with (at_builtin; refine wpList_appK (enc := encS) (k := 1) (E := 22) rfl (.tmp 44) (.tmp 46) 28 rfl i0 (.slice none 0 0) 24 Tryz.underlying28 HI.out HZ0.out HZ2.out HZ3.out rfl (by decide) (by decide) (fun _ => rfl) (fun v u hu => by simp [encS] at hu; subst hu; rfl) [((some ⟨gz, 0, none⟩, 2, cc) : SlV)] ⟨WQ.heap.size, 0, none⟩ 1 1 (by rfl) HOA.out (by rfl) rfl HY9 (by omega) hlo9 ?_; intro A5 c5 w5 hown5 hg5 hb5)
            have O5 := Lib.hid hown5
            have B5 := Lib.hid (HB9.out.trans hb5)
            clear hown5 hg5 hb5
            go_wp2
            go_roundw
            case rel => exact ⟨k + 1, n' + 1, c5, A5, by omega, by go_num, rfl, by omega, (by rw [HV.out, List.map_append]; exact O5.out), B5.out⟩
            case measure => simp [intOf]; omega
          | false =>
            have HD := Lib.hid hd
            have HV := Lib.hid (show ((zs.take (k + 1)).filter fun z => doB W z.2.1 z.2.2 f t) = ((zs.take k).filter fun z => doB W z.2.1 z.2.2 f t) from take_no HZ.out hd)
            clear hd
            go_wp2_with fail
            refine wp_region_held_drew (S := fun w' => w'.cell? ⟨w.heap.size, 0, none⟩ = some (.int .i64 W) ∧ w'.cell? ⟨w.heap.size, 1, none⟩ = some (.int .i64 H) ∧ w'.cell? ⟨w.heap.size, 2, none⟩ = some (.slice A n c) ∧ w'.cell? ⟨gz, 0, none⟩ = some (.int .i64 x) ∧ w'.cell? ⟨gz, 1, none⟩ = some (.int .i64 y)) (by kernel_rfl) ?_ (fun hHeld => ?_)
            · (try dsimp only)
              exact ⟨b0, b1, b2, x0, y0⟩
            refine wpAnyH_take (i := 0) (oi := ⟨_, _, _, _, _, _⟩) (v := ?_) rfl (by kernel_rfl) (by kernel_rfl) (by kernel_rfl) (fun _ _ _ h => h) (Or.inl ⟨by rfl, ?_⟩) (by assumption) ?_
            rotate_left
            · intro w hSw
              (try dsimp only at hSw)
              go_simp
              (try with_reducible rfl)
            (try simp only [Act.put, List.setIfInBounds_toArray, List.set_cons_zero, List.set_cons_succ])
            refine wpAnyH_take (i := 1) (oi := ⟨_, _, _, _, _, _⟩) (v := ?_) rfl (by kernel_rfl) (by kernel_rfl) (by kernel_rfl) (fun _ _ _ h => h) (Or.inl ⟨by rfl, ?_⟩) (by assumption) ?_
            rotate_left
            · intro w hSw
              (try dsimp only at hSw)
              go_simp
              (try with_reducible rfl)
            (try simp only [Act.put, List.setIfInBounds_toArray, List.set_cons_zero, List.set_cons_succ])
            refine wpAnyH_take (i := 2) (oi := ⟨_, _, _, _, _, _⟩) (v := ?_) rfl (by kernel_rfl) (by kernel_rfl) (by kernel_rfl) (fun _ _ _ h => h) (Or.inl ⟨by rfl, ?_⟩) (by assumption) ?_
            rotate_left
            · intro w hSw
              (try dsimp only at hSw)
              go_simp
              (try with_reducible rfl)
            (try simp only [Act.put, List.setIfInBounds_toArray, List.set_cons_zero, List.set_cons_succ])
            refine wpAnyH_take (i := 3) (oi := ⟨_, _, _, _, _, _⟩) (v := ?_) rfl (by kernel_rfl) (by kernel_rfl) (by kernel_rfl) (fun _ _ _ h => h) (Or.inl ⟨by rfl, ?_⟩) (by assumption) ?_
            rotate_left
            · intro w hSw
              (try dsimp only at hSw)
              go_simp
              (try with_reducible rfl)
            (try simp only [Act.put, List.setIfInBounds_toArray, List.set_cons_zero, List.set_cons_succ])
            refine wpAnyH_take (i := 4) (oi := ⟨_, _, _, _, _, _⟩) (v := ?_) rfl (by kernel_rfl) (by kernel_rfl) (by kernel_rfl) (fun _ _ _ h => h) (Or.inl ⟨by rfl, ?_⟩) (by assumption) ?_
            rotate_left
            · intro w hSw
              (try dsimp only at hSw)
              go_simp
              (try with_reducible rfl)
            (try simp only [Act.put, List.setIfInBounds_toArray, List.set_cons_zero, List.set_cons_succ])
            refine wpAnyH_take (i := 5) (oi := ⟨_, _, _, _, _, _⟩) (v := ?_) rfl (by kernel_rfl) (by kernel_rfl) (by kernel_rfl) (fun _ _ _ h => h) (Or.inl ⟨by rfl, ?_⟩) (by assumption) ?_
            rotate_left
            · intro w hSw
              (try dsimp only at hSw)
              go_simp
              (try with_reducible rfl)
            (try simp only [Act.put, List.setIfInBounds_toArray, List.set_cons_zero, List.set_cons_succ])
            refine wpAnyH_take (i := 6) (oi := ⟨_, _, _, _, _, _⟩) (v := ?_) rfl (by kernel_rfl) (by kernel_rfl) (by kernel_rfl) (fun _ _ _ h => h) (Or.inl ⟨by rfl, ?_⟩) (by assumption) ?_
            rotate_left
            · intro w hSw
              (try dsimp only at hSw)
              go_simp
              (try with_reducible rfl)
            (try simp only [Act.put, List.setIfInBounds_toArray, List.set_cons_zero, List.set_cons_succ])
            refine wpAnyH_take (i := 7) (oi := ⟨_, _, _, _, _, _⟩) (v := ?_) rfl (by kernel_rfl) (by kernel_rfl) (by kernel_rfl) (fun _ _ _ h => h) (Or.inl ⟨by rfl, ?_⟩) (by assumption) ?_
            rotate_left
            · intro w hSw
              (try dsimp only at hSw)
              go_simp
              (try with_reducible rfl)
            (try simp only [Act.put, List.setIfInBounds_toArray, List.set_cons_zero, List.set_cons_succ])
            refine wpAnyH_take (i := 8) (oi := ⟨_, _, _, _, _, _⟩) (v := ?_) rfl (by kernel_rfl) (by kernel_rfl) (by kernel_rfl) (fun _ _ _ h => h) (Or.inl ⟨by rfl, ?_⟩) (by assumption) ?_
            rotate_left
            · intro w hSw
              (try dsimp only at hSw)
              go_simp
              (try with_reducible rfl)
            (try simp only [Act.put, List.setIfInBounds_toArray, List.set_cons_zero, List.set_cons_succ])
            refine wpAnyH_ready (rs := [9]) (by kernel_rfl) (by simp) ?_
            refine AllReadyH.cons (o := ⟨_, _, _, _, _, _⟩) rfl (fun K hK => ?_) AllReadyH.nil
            go_simp
            (go_at_call 36; refine (crDo_any W H A n c x y f t _ HW.out HX64.out HY64.out HF64.out HT64.out).mono ?_; rw [HD.out]; rintro e wz ⟨rfl, hb⟩; (repeat (first | replace hb := below_undrew hb | replace hb := below_undrewN hb)); replace b0 := cell_keep b0 bl hb; replace b1 := cell_keep b1 bl hb; replace b2 := cell_keep b2 bl hb; replace bl := lt_keep bl hb; replace x0 := cell_keep x0 zl hb; replace y0 := cell_keep y0 zl hb; replace zl := lt_keep zl hb; replace HO := Lib.hid (HO.out.keep hb); replace HB := Lib.hid (below_next HB.out hb); replace hsw := Lib.hid (Nat.le_trans hsw.out hb.size); clear hb)
            (try go_wp2_with fail)
            refine hK.out _ _ ?_ (fun hHeld => ?_)
            · (try dsimp only)
              exact ⟨b0, b1, b2, x0, y0⟩
            clear hK K
            (try simp only [Act.put, List.setIfInBounds_toArray, List.set_cons_zero, List.set_cons_succ])
            refine wpAnyH_done (by kernel_rfl) ?_ _
            clear b0 b1 b2 bl x0 y0 zl v0
            go_wp2
            go_roundw
            case rel => exact ⟨k + 1, n', c', A', by omega, by go_num, rfl, by omega, (by rw [HV.out]; exact HO.out), HB.out⟩
            case measure => simp [intOf]; omega
        · have HE := Lib.hid (show zs.take k = zs from List.take_of_length_le (by rw [HZL.out]; omega))
          have kn : ¬ (k : Int) < (n1 : Int) := by omega
          have HSL := Lib.hid B.out.size
          clear hown hbw
          go_wp2
          go_ret2
          refine ⟨_, _, _, by rw [HOK.out]; rfl, ?_, below_next B.out HB.out⟩
          rw [crossedV, if_pos HOK.out, ← HZV.out]
          refine OwnSS.of (top := top) (sel_parts HSL.out ?_ (fun z hz => (HZI.out z hz).keep HB.out) HZO.out HZT.out)
          have h := HO.out
          rw [HE.out] at h
          exact h
    · have hk' : (lenB2 [f, t] && pathB W H xs a b [f, t]) = false := by simpa using hk
      have hz9 : okCl W H xs a b f t = false := by rw [okCl, ht, hk']; rfl
      go_enter Tryz.func16, Tryz.ntmps16
      go_wp2_with fail
      refine (boTwoV_any _ _ _ _ _ _ _ _ _ ((ha.alloc _).alloc _)).mono ?_
      rw [ht]
      rintro e wv ⟨rfl, hb⟩
      have hbx0 := below_box hb
      have a0 : wv.cell? ⟨w.heap.size, 0, none⟩ = some (.int .i64 W) := by simpa using newbox hbx0 0
      have a1 : wv.cell? ⟨w.heap.size, 1, none⟩ = some (.int .i64 H) := by simpa using newbox hbx0 1
      have a2 : wv.cell? ⟨w.heap.size, 2, none⟩ = some (.slice A n c) := by simpa using newbox hbx0 2
      have al : w.heap.size < wv.heap.size := by simpa using newbox_lt hbx0
      have l0 : wv.cell? ⟨w.heap.size + 1, 0, none⟩ = some (.int .i64 a) := by simpa using newbox hb 0
      have l1 : wv.cell? ⟨w.heap.size + 1, 1, none⟩ = some (.int .i64 b) := by simpa using newbox hb 1
      have ll : w.heap.size + 1 < wv.heap.size := by simpa using newbox_lt hb
      have B := Lib.hid (below_box hbx0)
      clear hb hbx0
      go_wp2_with fail
      refine (crLeap_any W H A n c xs a b _ _ _ [f, t] _ ((ha.keep B.out).alloc _) (own_two wv f t wv.heap.size (Nat.le_refl _)).rd (two_gK ht)).mono ?_
      rw [hk']
      rintro e wv ⟨rfl, hb9⟩
      have hb := below_box hb9
      clear hb9
      replace a0 := cell_keep a0 al hb
      replace a1 := cell_keep a1 al hb
      replace a2 := cell_keep a2 al hb
      replace al := lt_keep al hb
      replace l0 := cell_keep l0 ll hb
      replace l1 := cell_keep l1 ll hb
      replace ll := lt_keep ll hb
      replace B := Lib.hid (below_next B.out hb)
      clear hb
      go_wp2
      go_ret2
      exact ⟨none, 0, 0, by rw [hz9]; rfl, by rw [crossedV, if_neg (by rw [hz9]; simp)]; exact OwnSS.of (PartsAt.none_ _ _ 0), B.out⟩
  · have ht' : twoV W H xs a b = false := by simpa using ht
    have hz9 : okCl W H xs a b f t = false := by rw [okCl, ht']; rfl
    go_enter Tryz.func16, Tryz.ntmps16
    go_wp2_with fail
    refine (boTwoV_any _ _ _ _ _ _ _ _ _ ((ha.alloc _).alloc _)).mono ?_
    rw [ht']
    rintro e wv ⟨rfl, hb⟩
    have hbx0 := below_box hb
    have a0 : wv.cell? ⟨w.heap.size, 0, none⟩ = some (.int .i64 W) := by simpa using newbox hbx0 0
    have a1 : wv.cell? ⟨w.heap.size, 1, none⟩ = some (.int .i64 H) := by simpa using newbox hbx0 1
    have a2 : wv.cell? ⟨w.heap.size, 2, none⟩ = some (.slice A n c) := by simpa using newbox hbx0 2
    have al : w.heap.size < wv.heap.size := by simpa using newbox_lt hbx0
    have l0 : wv.cell? ⟨w.heap.size + 1, 0, none⟩ = some (.int .i64 a) := by simpa using newbox hb 0
    have l1 : wv.cell? ⟨w.heap.size + 1, 1, none⟩ = some (.int .i64 b) := by simpa using newbox hb 1
    have ll : w.heap.size + 1 < wv.heap.size := by simpa using newbox_lt hb
    have B := Lib.hid (below_box hbx0)
    clear hb hbx0
    go_wp2
    go_ret2
    exact ⟨none, 0, 0, by rw [hz9]; rfl, by rw [crossedV, if_neg (by rw [hz9]; simp)]; exact OwnSS.of (PartsAt.none_ _ _ 0), B.out⟩

end Go.Proofs.YtbpgkigoboobeaaGreat

namespace Go.Proofs.YtbpgkigoboobeaaGreat
open Go.RowKit

def PartsV (w : World) (lo top : Nat) (A : Option Addr) (n c : Nat) (vs : List SlV) (ps : List (List Int)) : Prop :=
  OwnK encS 1 22 w lo A n c vs ∧ ps.length = n ∧ (∀ (i : Nat) (v : SlV) (p : List Int), vs[i]? = some v → ps[i]? = some p → OwnI 3 w lo v.1 v.2.1 v.2.2 p) ∧
    (∀ (i j : Nat) (v u : SlV), i < j → vs[i]? = some v → vs[j]? = some u → ∀ x y, v.1 = some x → u.1 = some y → x.block < y.block) ∧
    ∀ (i : Nat) (v : SlV), vs[i]? = some v → ∀ x, v.1 = some x → x.block < top
theorem PartsV.parts {w : World} {lo top : Nat} {A : Option Addr} {n c : Nat} {vs : List SlV} {ps : List (List Int)} (h : PartsV w lo top A n c vs ps) : PartsAt w lo top A n c ps := ⟨vs, h⟩
theorem PartsV.none_ (w : World) (lo top : Nat) : PartsV w lo top none 0 0 [] [] := ⟨OwnK.none_ _ _ _ _ _, rfl, fun i v p h => by simp at h, fun i j v u _ h => by simp at h, fun i v h => by simp at h⟩
theorem PartsV.keep {w w' : World} {lo top : Nat} {A : Option Addr} {n c : Nat} {vs : List SlV} {ps : List (List Int)} (h : PartsV w lo top A n c vs ps) (hb : Below w.heap.size w w') : PartsV w' lo top A n c vs ps :=
  ⟨h.1.keep hb, h.2.1, fun i v p hv hp => (h.2.2.1 i v p hv hp).keep hb, h.2.2.2⟩
theorem PartsV.snoc {w w' : World} {lo top top' : Nat} {A A' : Option Addr} {n c c' : Nat} {vs : List SlV} {ps : List (List Int)} {A3 : Option Addr} {n3 c3 : Nat} {p : List Int} (h : PartsV w lo top A n c vs ps)
    (hp : OwnI 3 w lo A3 n3 c3 p) (hpn : ∀ y, A3 = some y → top ≤ y.block ∧ y.block < top') (htt : top ≤ top') (hK : OwnK encS 1 22 w' lo A' (n + 1) c' (vs ++ [(A3, n3, c3)])) (hgw : w.grownBy w' (rowOf A)) :
    PartsV w' lo top' A' (n + 1) c' (vs ++ [(A3, n3, c3)]) (ps ++ [p]) := by
  obtain ⟨h1, h2, h3, h4, h5⟩ := h
  have keepN : ∀ (lo' : Nat) (v : Option Addr) (m k : Nat) (q : List Int), OwnI 3 w lo' v m k q → OwnI 3 w' lo' v m k q := fun lo' v m k q hq => by
    rcases v with _ | v
    · exact hq.other hgw (fun a ha => by cases ha)
    · exact hq.other hgw (fun a ha => by
        injection ha with ha
        subst ha
        rcases A with _ | b
        · simp [rowOf]
        · have := rows_apart (by decide : 3 ≠ 22) hq h1.2
          simpa [rowOf] using this)
  refine ⟨hK, by rw [List.length_append, h2]; rfl, fun i v q hv hq => ?_, fun i j v u hij hv hu y z hy hz => ?_, fun i v hv y hy => ?_⟩
  · have hvl : vs.length = n := h1.len
    by_cases e : i < n
    · rw [List.getElem?_append_left (by omega)] at hv
      rw [List.getElem?_append_left (by omega)] at hq
      exact keepN _ _ _ _ _ (h3 i v q hv hq)
    · rw [List.getElem?_append_right (by omega)] at hv
      rw [List.getElem?_append_right (by omega)] at hq
      have e0 : i - n = 0 := by
        rcases Nat.eq_zero_or_pos (i - n) with h | h
        · exact h
        · rw [hvl, List.getElem?_eq_none (by simp; omega)] at hv; cases hv
      rw [hvl, e0] at hv
      rw [h2, e0] at hq
      simp at hv hq
      subst hv; subst hq
      exact keepN _ _ _ _ _ hp
  · have hvl : vs.length = n := h1.len
    have hj : j < (vs ++ [(A3, n3, c3)]).length := (List.getElem?_eq_some_iff.1 hu).1
    rw [List.length_append, hvl] at hj
    simp only [List.length_cons, List.length_nil] at hj
    rw [List.getElem?_append_left (by omega)] at hv
    by_cases e : j < n
    · rw [List.getElem?_append_left (by omega)] at hu
      exact h4 i j v u hij hv hu y z hy hz
    · rw [List.getElem?_append_right (by omega), hvl, show j - n = 0 by omega] at hu
      simp at hu; subst hu
      have := h5 i v hv y hy
      have := (hpn z hz).1
      omega
  · have hvl : vs.length = n := h1.len
    by_cases e : i < n
    · rw [List.getElem?_append_left (by omega)] at hv
      have := h5 i v hv y hy
      omega
    · have hj : i < (vs ++ [(A3, n3, c3)]).length := (List.getElem?_eq_some_iff.1 hv).1
      rw [List.length_append, hvl] at hj
      simp only [List.length_cons, List.length_nil] at hj
      rw [List.getElem?_append_right (by omega), hvl, show i - n = 0 by omega] at hv
      simp at hv; subst hv
      exact (hpn y hy).2
theorem step_appKg {α : Type} {enc : α → List Value} {k : Nat} {P : Program} {w : World} {ops : Array Oper} {o : Oper} {a : Act} {K : Act → World → Prop} {Q : Exit → Act → World → Prop} {E0 : Prop} (hgd : o.guard = none) (s x : Operand) (T E : TypeId)
    (ho : o.op = .call { callee := .builtin .append, args := #[s, x], argTypes := #[T, T] }) (i0 : TypeInfo) (z : Value) (bytes : Nat)
    (hT : P.underlying T = some (.slice E)) (hi : P.info? E = some i0) (hz0 : i0.zero = some z) (hz1 : i0.size = k) (hz2 : i0.bytes = bytes) (hzs : z.cells.size = k) (hk0 : 0 < k) (hby : bytes ≤ 64)
    (hk : ∀ x, (enc x).length = k) (h1 : ∀ x, ∀ u ∈ enc x, u.oneCell' = true)
    (lo : Nat) (A : Option Addr) (n c : Nat) (xs : List α) (ad : Addr) (m cy : Nat) (ys : List α) (hs : a.eval s = .slice A n c) (hown : OwnK enc k E w lo A n c xs) (hx : a.eval x = .slice (some ad) m cy) (hm : ys.length = m)
    (hy : ∀ j u, (ys.flatMap enc)[j]? = some u → w.cell? (ad.add j) = some u) (hn : n + m ≤ 1000000) (hlo : lo ≤ w.heap.size)
    (h : ∀ A' c' w', OwnK enc k E w' lo A' (n + m) c' (xs ++ ys) → w.grownBy w' (rowOf A) → Below lo w w' → K (a.put o.dst (.slice A' (n + m) c')) w') :
    if Region.wanted o (yielded ops a.tmps) = true then Oper.wp P o a w K Q else E0 := by
  have hw : Region.wanted o (yielded ops a.tmps) = true := by simp [Region.wanted, hgd]
  rw [if_pos hw]
  refine wp_append_own w s x T ho lo E i0 z k bytes hT hi hz0 hz1 hz2 hzs hk0 (.slice A n c) n (xs.flatMap enc) hs hown.2 ad m cy (ys.flatMap enc) hx (by rw [flat_len hk, hm]) hy ?_ (by unfold maxLen; omega) ?_ hlo ?_
  · intro u hu
    obtain ⟨y, _, hu⟩ := List.mem_flatMap.1 hu
    exact h1 y u hu
  · have := Nat.mul_le_mul hn hby; omega
  · intro v' w' hown' hgrow _
    rw [← List.flatMap_append] at hown'
    obtain ⟨A', c', rfl, hO⟩ := OwnK.of_row (by rw [List.length_append, hown.1, hm]) hown'
    exact h A' c' w' hO (by rcases A with _ | b <;> exact hgrow) ((Below.refl _ _).grown hgrow hlo (fun k hk => (World.ownsRow.lt hown.2 k hk).1))
theorem okCl_impl (W H : Int) (xs : List Int) (a b f t : Int) : okCl W H xs a b f t = (lenB2 [f, t] && okPa W H xs a b [f, t]) := by
  rw [okCl, okPa]; cases twoV W H xs a b <;> simp
theorem lnL_lt {W x y : Int} (h : x < y) : lnL W x y = ((x % W, x / W), (y % W, y / W)) := by
  rw [lnL, Int.min_eq_left (by omega), Int.max_eq_right (by omega)]; rfl

/-- A block that holds a line. -/
def LineBox (w : World) (g : Nat) : Prop := ∃ cs fr, w.heap[g]? = some (.cells cs 68 fr)
theorem LineBox.new (w : World) (cs : Array Value) : LineBox (w.alloc (.cells cs 68)) w.heap.size := ⟨cs, (0, 0), heap_alloc_new w _⟩
theorem LineBox.keep {w w' : World} {g : Nat} (h : LineBox w g) (hb : Below w.heap.size w w') : LineBox w' g := by
  obtain ⟨cs, fr, h⟩ := h
  exact ⟨cs, fr, (hb.block g (Array.getElem?_eq_some_iff.1 h).1).trans h⟩
theorem LineBox.apart {w : World} {g lo k n c : Nat} {b : Addr} {xs : List Value} (h : LineBox w g) (ho : w.ownsRow lo 22 k (.slice (some b) n c) n xs) : b.block ≠ g := fun e => by
  obtain ⟨cs, fr, h⟩ := h
  obtain ⟨c1, h1⟩ := row_block ho
  rw [e, h] at h1
  injection h1 with h1
  injection h1 with h1 h2 h3
  exact absurd h2 (by decide)

set_option maxRecDepth 100000 in
set_option maxHeartbeats 8000000 in
theorem impl_CrossedLeaps (W H : Int) (A : Option Addr) (n c : Nat) (xs : List Int) (a b f t : Int) (w : World) (ha : Rd w A n xs) :
    Calls Tryz.prog 17 #[brd W H A n c, lpr a b, .int .i64 f, .int .i64 t] w fun e w' => ∃ A' n' c', e = .returned (.tuple #[.slice A' n' c', .bool (okCl W H xs a b f t)]) ∧ OwnSS w' w.heap.size w'.heap.size A' n' c' (crossedV W H xs a b f t) ∧ Below w.heap.size w w' := by
  obtain ⟨W2, hW2⟩ : ∃ W2, W2 = (w.alloc (.cells #[.int .i64 W, .int .i64 H, .slice A n c] 31)).alloc (.cells #[.int .i64 a, .int .i64 b] 33) := ⟨_, rfl⟩
  have a0 : W2.cell? ⟨w.heap.size, 0, none⟩ = some (.int .i64 W) := by rw [hW2]; go_simp
  have a1 : W2.cell? ⟨w.heap.size, 1, none⟩ = some (.int .i64 H) := by rw [hW2]; go_simp
  have a2 : W2.cell? ⟨w.heap.size, 2, none⟩ = some (.slice A n c) := by rw [hW2]; go_simp
  have l0 : W2.cell? ⟨w.heap.size + 1, 0, none⟩ = some (.int .i64 a) := by rw [hW2]; go_simp
  have l1 : W2.cell? ⟨w.heap.size + 1, 1, none⟩ = some (.int .i64 b) := by rw [hW2]; go_simp
  have al : w.heap.size < W2.heap.size := by rw [hW2]; simp; omega
  have ll : w.heap.size + 1 < W2.heap.size := by rw [hW2]; simp
  have B := Lib.hid (show Below w.heap.size w W2 by rw [hW2]; exact below_new (below_new (Below.refl _ _) _) _)
  have R := Lib.hid (ha.keep B.out)
  clear ha
  by_cases hk : (lenB2 [f, t] && okPa W H xs a b [f, t]) = true
  · have hpm9 : okPa W H xs a b [f, t] = true := by simp only [Bool.and_eq_true] at hk; exact hk.2
    have HT := Lib.hid (okPa_two hpm9)
    have HOK := Lib.hid (show okCl W H xs a b f t = true by rw [okCl_impl, hk])
    have hgd := two_gK HT.out
    obtain ⟨hW, hH, _, _⟩ := goodB_iff.1 hgd
    have HW := Lib.hid hW; have HN := Lib.hid (cells_le hW hH)
    have HF64 := Lib.hid (show 0 ≤ f ∧ f ≤ 64 by have := okPa_64 hpm9 f (by simp); omega)
    have HT64 := Lib.hid (show 0 ≤ t ∧ t ≤ 64 by have := okPa_64 hpm9 t (by simp); omega)
    have HNE := Lib.hid (show f ≠ t from okPa_ne hpm9 0 (by simp))
    have HGD := Lib.hid hgd
    have HK := Lib.hid hk
    clear hk hW hH hgd hpm9
    go_enter Tryz.func17, Tryz.ntmps17
    go_upto_region 1 with fail
    rw [← hW2]
    clear hW2
    go_wp2_with fail
    refine (isLeapOn_any W H A n c xs a b _ _ _ [f, t] _ (R.out.alloc _) (own_two W2 f t W2.heap.size (Nat.le_refl _)).rd).mono ?_
    rw [HK.out]
    rintro e w3 ⟨rfl, hb9⟩
    have hb := below_box hb9
    clear hb9
    replace a0 := cell_keep a0 al hb; replace a1 := cell_keep a1 al hb; replace a2 := cell_keep a2 al hb; replace al := lt_keep al hb; replace l0 := cell_keep l0 ll hb; replace l1 := cell_keep l1 ll hb; replace ll := lt_keep ll hb; replace R := Lib.hid (R.out.keep hb); replace B := Lib.hid (below_next B.out hb)
    clear hb
    go_wp2_with fail
    refine (lineOf_any W H A n c f t _ HW.out HF64.out HT64.out).mono ?_
    rintro e w4 ⟨rfl, hb⟩
    replace a0 := cell_keep a0 al hb; replace a1 := cell_keep a1 al hb; replace a2 := cell_keep a2 al hb; replace al := lt_keep al hb; replace l0 := cell_keep l0 ll hb; replace l1 := cell_keep l1 ll hb; replace ll := lt_keep ll hb; replace R := Lib.hid (R.out.keep hb); replace B := Lib.hid (below_next B.out hb)
    clear hb
    go_upto_region 4 with fail
    obtain ⟨WP, hWP⟩ : ∃ WP, WP = w4.alloc (.cells #[.int .i64 (lnL W f t).1.1, .int .i64 (lnL W f t).1.2, .int .i64 (lnL W f t).2.1, .int .i64 (lnL W f t).2.2] 68) := ⟨_, rfl⟩
    obtain ⟨gp, hgp⟩ : ∃ gp, gp = w4.heap.size := ⟨_, rfl⟩
    have p0 : WP.cell? ⟨gp, 0, none⟩ = some (.int .i64 (lnL W f t).1.1) := by rw [hWP, hgp]; go_simp
    have p1 : WP.cell? ⟨gp, 1, none⟩ = some (.int .i64 (lnL W f t).1.2) := by rw [hWP, hgp]; go_simp
    have p2 : WP.cell? ⟨gp, 2, none⟩ = some (.int .i64 (lnL W f t).2.1) := by rw [hWP, hgp]; go_simp
    have p3 : WP.cell? ⟨gp, 3, none⟩ = some (.int .i64 (lnL W f t).2.2) := by rw [hWP, hgp]; go_simp
    have pl : gp < WP.heap.size := by rw [hWP, hgp]; simp
    have hb : Below w4.heap.size w4 WP := by rw [hWP]; exact below_new (Below.refl _ _) _
    rw [← hWP, ← hgp]
    clear hWP hgp
    replace a0 := cell_keep a0 al hb; replace a1 := cell_keep a1 al hb; replace a2 := cell_keep a2 al hb; replace al := lt_keep al hb; replace l0 := cell_keep l0 ll hb; replace l1 := cell_keep l1 ll hb; replace ll := lt_keep ll hb; replace R := Lib.hid (R.out.keep hb); replace B := Lib.hid (below_next B.out hb)
    clear hb
    go_wp2_with fail
    refine (linesOn_any W H A n c xs a b _ R.out HGD.out (two_leaper HT.out)).mono ?_
    rintro e w5 ⟨A1, n1, c1, rfl, hln, hb⟩
    replace p0 := cell_keep p0 pl hb; replace p1 := cell_keep p1 pl hb; replace p2 := cell_keep p2 pl hb; replace p3 := cell_keep p3 pl hb; replace pl := lt_keep pl hb
    replace a0 := cell_keep a0 al hb; replace a1 := cell_keep a1 al hb; replace a2 := cell_keep a2 al hb; replace al := lt_keep al hb; replace l0 := cell_keep l0 ll hb; replace l1 := cell_keep l1 ll hb; replace ll := lt_keep ll hb; replace R := Lib.hid (R.out.keep hb); replace B := Lib.hid (below_next B.out hb)
    clear hb
    have HLN := Lib.hid hln
    have HLL := Lib.hid (show (pairsL W H xs a b).length = n1 by have := hln.len; rw [List.length_map] at this; exact this)
    have n1b : n1 ≤ 4096 := by have := HLL.out; have := pairsL_len (a := a) (b := b) (xs := xs) HN.out; omega
    obtain ⟨i0, hi, hz0, hz1, hz2⟩ := info_parts infoIS
    have HI := Lib.hid hi; have HZ0 := Lib.hid hz0; have HZ2 := Lib.hid hz1; have HZ3 := Lib.hid hz2
    have CF := Lib.hid (co_line HW.out HF64.out HT64.out)
    have AL := Lib.hid al
    clear hln hi hz0 hz1 hz2 l0 l1 ll R
    go_wp2
    go_loopw [11, 29] (fun v i wr => ∃ (k n' c' top : Nat) (A' : Option Addr) (vs : List SlV), k ≤ n1 ∧ i = .int .i64 k ∧ v = .slice A' n' c' ∧ n' ≤ k ∧ PartsV wr w5.heap.size top A' n' c' vs ((((pairsL W H xs a b).take k).filter fun z => doB W z.1 z.2 f t).map pairL) ∧ top ≤ wr.heap.size ∧ Below w5.heap.size w5 wr) (fun _ i _ => n1 - (intOf i).toNat)
    case atStart => exact ⟨0, 0, 0, 0, none, [], Nat.zero_le _, rfl, rfl, Nat.le_refl _, PartsV.none_ _ _ _, Nat.zero_le _, Below.refl _ _⟩
    case round =>
      obtain ⟨k, n', c', top, A', vs, hk, rfl, rfl, hn', hpv, htp, hbw⟩ := hrel
      have HP := Lib.hid hpv; have HB := Lib.hid hbw
      by_cases hlt : k < n1
      · obtain ⟨⟨x, y⟩, hz⟩ : ∃ z, (pairsL W H xs a b)[k]? = some z := ⟨_, List.getElem?_eq_getElem (by rw [HLL.out]; exact hlt)⟩
        have HZ := Lib.hid hz
        have hpm := pairsL_mem HN.out (List.mem_of_getElem? hz)
        simp only at hpm
        obtain ⟨g1, rfl, _, gl1⟩ := HLN.out.some_ hlt
        obtain ⟨x0, x1, x2, x3⟩ := line_at HLN.out (i := k) (l := lnL W x y) (by rw [List.getElem?_map, hz]; rfl)
        rw [lnL_lt hpm.1] at x0 x1 x2 x3
        simp only at x0 x1 x2 x3
        replace x0 := cell_keep x0 gl1 hbw; replace x1 := cell_keep x1 gl1 hbw; replace x2 := cell_keep x2 gl1 hbw; replace x3 := cell_keep x3 gl1 hbw
        have HX64 := Lib.hid (show 0 ≤ x ∧ x ≤ 64 by have := HN.out; omega)
        have HY64 := Lib.hid (show 0 ≤ y ∧ y ≤ 64 by have := HN.out; omega)
        have CX := Lib.hid (cell_bd HW.out HX64.out); have CY := Lib.hid (cell_bd HW.out HY64.out)
        have HXA := Lib.hid (show 0 ≤ x % W ∧ x % W ≤ 1000 by have := CX.out; omega)
        have HYA9 := Lib.hid (show 0 ≤ y % W ∧ y % W ≤ 1000 by have := CY.out; omega)
        have HXB := Lib.hid (show 0 ≤ x / W * W ∧ x / W * W ≤ 1000 by have h1 := num_of W x; have := CX.out; have := HX64.out; have := Int.mul_nonneg (show 0 ≤ x / W by omega) (show 0 ≤ W by have := HW.out; omega); omega)
        have HYB := Lib.hid (show 0 ≤ y / W * W ∧ y / W * W ≤ 1000 by have h1 := num_of W y; have := CY.out; have := HY64.out; have := Int.mul_nonneg (show 0 ≤ y / W by omega) (show 0 ≤ W by have := HW.out; omega); omega)
        have HCD := Lib.hid (show cr ((x % W, x / W), (y % W, y / W)) (((lnL W f t).1.1, (lnL W f t).1.2), ((lnL W f t).2.1, (lnL W f t).2.2)) = doB W x y f t by
          have h := cr_do (W := W) (show x ≠ y by omega) HNE.out
          rw [lnL_lt hpm.1] at h
          exact h)
        have b0 := cell_keep a0 al hbw; have bl := lt_keep al hbw
        have e0 := cell_keep p0 pl hbw; have e1 := cell_keep p1 pl hbw; have e2 := cell_keep p2 pl hbw; have e3 := cell_keep p3 pl hbw; have el := lt_keep pl hbw
        have hsw := Lib.hid hbw.size
        have htop := Lib.hid htp
        have k0 : (0 : Int) ≤ (k : Int) := by omega
        have kn : (k : Int) < (n1 : Int) := by omega
        clear hz hpm hpv hbw gl1 htp
        cases hd : doB W x y f t with
        | true =>
          have HD := Lib.hid (HCD.out.trans hd)
          have HV := Lib.hid (show (((pairsL W H xs a b).take (k + 1)).filter fun z => doB W z.1 z.2 f t) = (((pairsL W H xs a b).take k).filter fun z => doB W z.1 z.2 f t) ++ [(x, y)] from take_yes HZ.out hd)
          clear hd
          go_upto_region 8 with fail
          obtain ⟨w6, hw6⟩ : ∃ w6, w6 = wr.alloc (.cells #[.int .i64 (x % W), .int .i64 (x / W), .int .i64 (y % W), .int .i64 (y / W)] 68) := ⟨_, rfl⟩
          obtain ⟨gq, hgq⟩ : ∃ gq, gq = wr.heap.size := ⟨_, rfl⟩
          have q0 : w6.cell? ⟨gq, 0, none⟩ = some (.int .i64 (x % W)) := by rw [hw6, hgq]; go_simp
          have q1 : w6.cell? ⟨gq, 1, none⟩ = some (.int .i64 (x / W)) := by rw [hw6, hgq]; go_simp
          have q2 : w6.cell? ⟨gq, 2, none⟩ = some (.int .i64 (y % W)) := by rw [hw6, hgq]; go_simp
          have q3 : w6.cell? ⟨gq, 3, none⟩ = some (.int .i64 (y / W)) := by rw [hw6, hgq]; go_simp
          have ql : gq < w6.heap.size := by rw [hw6, hgq]; simp
          have hb : Below wr.heap.size wr w6 := by rw [hw6]; exact below_new (Below.refl _ _) _
          have LB := Lib.hid (show LineBox w6 gq from by rw [hw6, hgq]; exact LineBox.new _ _)
          rw [← hw6, ← hgq]
          replace b0 := cell_keep b0 bl hb; replace bl := lt_keep bl hb; replace e0 := cell_keep e0 el hb; replace e1 := cell_keep e1 el hb; replace e2 := cell_keep e2 el hb; replace e3 := cell_keep e3 el hb; replace el := lt_keep el hb
          replace HP := Lib.hid (HP.out.keep hb); replace HB := Lib.hid (below_next HB.out hb); replace htop := Lib.hid (Nat.le_trans htop.out hb.size); replace hsw := Lib.hid (Nat.le_trans hsw.out hb.size)
          clear hw6 hgq hb x0 x1 x2 x3
          go_wp2_with fail
          refine (crosses_any (x % W) (x / W) (y % W) (y / W) (lnL W f t).1.1 (lnL W f t).1.2 (lnL W f t).2.1 (lnL W f t).2.2 _ CX.out.1 CX.out.2 CY.out.1 CY.out.2 CF.out.1.1 CF.out.1.2 CF.out.2.1 CF.out.2.2).mono ?_
          rw [HD.out]
          rintro e w8 ⟨rfl, hb⟩
          replace b0 := cell_keep b0 bl hb; replace bl := lt_keep bl hb; replace q0 := cell_keep q0 ql hb; replace q1 := cell_keep q1 ql hb; replace q2 := cell_keep q2 ql hb; replace q3 := cell_keep q3 ql hb; replace ql := lt_keep ql hb; replace HP := Lib.hid (HP.out.keep hb); replace HB := Lib.hid (below_next HB.out hb); replace htop := Lib.hid (Nat.le_trans htop.out hb.size); replace hsw := Lib.hid (Nat.le_trans hsw.out hb.size); replace LB := Lib.hid (LB.out.keep hb)
          clear hb e0 e1 e2 e3 el
          go_wp2_with fail
          refine wp_region_held_drew (S := fun w' => w'.cell? ⟨w.heap.size, 0, none⟩ = some (.int .i64 W) ∧ w'.cell? ⟨gq, 0, none⟩ = some (.int .i64 (x % W)) ∧ w'.cell? ⟨gq, 1, none⟩ = some (.int .i64 (x / W)) ∧ w'.cell? ⟨gq, 2, none⟩ = some (.int .i64 (y % W)) ∧ w'.cell? ⟨gq, 3, none⟩ = some (.int .i64 (y / W))) (by kernel_rfl) ?_ (fun hHeld => ?_)
          · (try dsimp only)
            exact ⟨b0, q0, q1, q2, q3⟩
          refine wpAnyH_take (i := 0) (oi := ⟨_, _, _, _, _, _⟩) (v := ?_) rfl (by kernel_rfl) (by kernel_rfl) (by kernel_rfl) (fun _ _ _ h => h) (Or.inl ⟨by rfl, ?_⟩) (by assumption) ?_
          rotate_left
          · intro w hSw
            (try dsimp only at hSw)
            go_simp
            (try with_reducible rfl)
          (try simp only [Act.put, List.setIfInBounds_toArray, List.set_cons_zero, List.set_cons_succ])
          refine wpAnyH_take (i := 1) (oi := ⟨_, _, _, _, _, _⟩) (v := ?_) rfl (by kernel_rfl) (by kernel_rfl) (by kernel_rfl) (fun _ _ _ h => h) (Or.inl ⟨by rfl, ?_⟩) (by assumption) ?_
          rotate_left
          · intro w hSw
            (try dsimp only at hSw)
            go_simp
            (try with_reducible rfl)
          (try simp only [Act.put, List.setIfInBounds_toArray, List.set_cons_zero, List.set_cons_succ])
          refine wpAnyH_take (i := 2) (oi := ⟨_, _, _, _, _, _⟩) (v := ?_) rfl (by kernel_rfl) (by kernel_rfl) (by kernel_rfl) (fun _ _ _ h => h) (Or.inl ⟨by rfl, ?_⟩) (by assumption) ?_
          rotate_left
          · intro w hSw
            (try dsimp only at hSw)
            go_simp
            (try with_reducible rfl)
          (try simp only [Act.put, List.setIfInBounds_toArray, List.set_cons_zero, List.set_cons_succ])
          refine wpAnyH_take (i := 3) (oi := ⟨_, _, _, _, _, _⟩) (v := ?_) rfl (by kernel_rfl) (by kernel_rfl) (by kernel_rfl) (fun _ _ _ h => h) (Or.inl ⟨by rfl, ?_⟩) (by assumption) ?_
          rotate_left
          · intro w hSw
            (try dsimp only at hSw)
            go_simp
            (try with_reducible rfl)
          (try simp only [Act.put, List.setIfInBounds_toArray, List.set_cons_zero, List.set_cons_succ])
          refine wpAnyH_take (i := 4) (oi := ⟨_, _, _, _, _, _⟩) (v := ?_) rfl (by kernel_rfl) (by kernel_rfl) (by kernel_rfl) (fun _ _ _ h => h) (Or.inl ⟨by rfl, ?_⟩) (by assumption) ?_
          rotate_left
          · intro w hSw
            (try dsimp only at hSw)
            go_simp
            (try with_reducible rfl)
          (try simp only [Act.put, List.setIfInBounds_toArray, List.set_cons_zero, List.set_cons_succ])
          refine wpAnyH_take (i := 6) (oi := ⟨_, _, _, _, _, _⟩) (v := ?_) rfl (by kernel_rfl) (by kernel_rfl) (by kernel_rfl) (fun _ _ _ h => h) (Or.inl ⟨by rfl, ?_⟩) (by assumption) ?_
          rotate_left
          · intro w hSw
            (try dsimp only at hSw)
            go_simp
            (try with_reducible rfl)
          (try simp only [Act.put, List.setIfInBounds_toArray, List.set_cons_zero, List.set_cons_succ])
          refine wpAnyH_take (i := 7) (oi := ⟨_, _, _, _, _, _⟩) (v := ?_) rfl (by kernel_rfl) (by kernel_rfl) (by kernel_rfl) (fun _ _ _ h => h) (Or.inl ⟨by rfl, ?_⟩) (by assumption) ?_
          rotate_left
          · intro w hSw
            (try dsimp only at hSw)
            go_simp
            (try with_reducible rfl)
          (try simp only [Act.put, List.setIfInBounds_toArray, List.set_cons_zero, List.set_cons_succ])
          refine wpAnyH_take (i := 8) (oi := ⟨_, _, _, _, _, _⟩) (v := ?_) rfl (by kernel_rfl) (by kernel_rfl) (by kernel_rfl) (fun _ _ _ h => h) (Or.inl ⟨by rfl, ?_⟩) (by assumption) ?_
          rotate_left
          · intro w hSw
            (try dsimp only at hSw)
            go_simp
            (try with_reducible rfl)
          (try simp only [Act.put, List.setIfInBounds_toArray, List.set_cons_zero, List.set_cons_succ])
          refine wpAnyH_take (i := 9) (oi := ⟨_, _, _, _, _, _⟩) (v := ?_) rfl (by kernel_rfl) (by kernel_rfl) (by kernel_rfl) (fun _ _ _ h => h) (Or.inl ⟨by rfl, ?_⟩) (by assumption) ?_
          rotate_left
          · intro w hSw
            (try dsimp only at hSw)
            go_simp
            (try with_reducible rfl)
          (try simp only [Act.put, List.setIfInBounds_toArray, List.set_cons_zero, List.set_cons_succ])
          refine wpAnyH_ready (rs := [5]) (by kernel_rfl) (by simp) ?_
          refine AllReadyH.cons (o := ⟨_, _, _, _, _, _⟩) rfl (fun K hK => ?_) AllReadyH.nil
          go_simp
          (go_at_call 41; refine (number_any (x % W) (x / W) W _ HXA.out HXB.out).mono ?_; rw [num_of]; rintro e w8 ⟨rfl, hb⟩; (repeat (first | replace hb := below_undrew hb | replace hb := below_undrewN hb)); replace b0 := cell_keep b0 bl hb; replace bl := lt_keep bl hb; replace q0 := cell_keep q0 ql hb; replace q1 := cell_keep q1 ql hb; replace q2 := cell_keep q2 ql hb; replace q3 := cell_keep q3 ql hb; replace ql := lt_keep ql hb; replace HP := Lib.hid (HP.out.keep hb); replace HB := Lib.hid (below_next HB.out hb); replace htop := Lib.hid (Nat.le_trans htop.out hb.size); replace hsw := Lib.hid (Nat.le_trans hsw.out hb.size); replace LB := Lib.hid (LB.out.keep hb); clear hb)
          (try go_wp2_with fail)
          refine hK.out _ _ ?_ (fun hHeld => ?_)
          · (try dsimp only)
            exact ⟨b0, q0, q1, q2, q3⟩
          clear hK K
          (try simp only [Act.put, List.setIfInBounds_toArray, List.set_cons_zero, List.set_cons_succ])
          refine wpAnyH_ready (rs := [10]) (by kernel_rfl) (by simp) ?_
          refine AllReadyH.cons (o := ⟨_, _, _, _, _, _⟩) rfl (fun K hK => ?_) AllReadyH.nil
          go_simp
          (go_at_call 41; refine (number_any (y % W) (y / W) W _ HYA9.out HYB.out).mono ?_; rw [num_of]; rintro e w8 ⟨rfl, hb⟩; (repeat (first | replace hb := below_undrew hb | replace hb := below_undrewN hb)); replace b0 := cell_keep b0 bl hb; replace bl := lt_keep bl hb; replace q0 := cell_keep q0 ql hb; replace q1 := cell_keep q1 ql hb; replace q2 := cell_keep q2 ql hb; replace q3 := cell_keep q3 ql hb; replace ql := lt_keep ql hb; replace HP := Lib.hid (HP.out.keep hb); replace HB := Lib.hid (below_next HB.out hb); replace htop := Lib.hid (Nat.le_trans htop.out hb.size); replace hsw := Lib.hid (Nat.le_trans hsw.out hb.size); replace LB := Lib.hid (LB.out.keep hb); clear hb)
          (try go_wp2_with fail)
          refine hK.out _ _ ?_ (fun hHeld => ?_)
          · (try dsimp only)
            exact ⟨b0, q0, q1, q2, q3⟩
          clear hK K
          (try simp only [Act.put, List.setIfInBounds_toArray, List.set_cons_zero, List.set_cons_succ])
          refine wpAnyH_ready (rs := [11]) (by kernel_rfl) (by simp) ?_
          refine AllReadyH.cons (o := ⟨_, _, _, _, _, _⟩) rfl (fun K hK => ?_) AllReadyH.nil
          go_simp
          obtain ⟨w9, hw9⟩ : ∃ w9, w9 = w8.alloc (.cells #[.int .i64 x, .int .i64 y] 3) := ⟨_, rfl⟩
          have hb : Below w8.heap.size w8 w9 := by rw [hw9]; exact below_new (Below.refl _ _) _
          have OW := Lib.hid (show OwnI 3 w9 w5.heap.size (some ⟨w8.heap.size, 0, none⟩) 2 2 [x, y] by rw [hw9]; exact own_two w8 x y w5.heap.size hsw.out)
          have hgw : w8.heap.size < w9.heap.size := by rw [hw9]; simp
          obtain ⟨gw, hgw9⟩ : ∃ gw, gw = w8.heap.size := ⟨_, rfl⟩
          have HTG := Lib.hid (show top ≤ gw by rw [hgw9]; exact htop.out)
          rw [← hw9]
          rw [← hgw9] at hgw OW ⊢
          clear hw9
          replace b0 := cell_keep b0 bl hb; replace bl := lt_keep bl hb; replace q0 := cell_keep q0 ql hb; replace q1 := cell_keep q1 ql hb; replace q2 := cell_keep q2 ql hb; replace q3 := cell_keep q3 ql hb; replace ql := lt_keep ql hb; replace HP := Lib.hid (HP.out.keep hb); replace HB := Lib.hid (below_next HB.out hb); replace htop := Lib.hid (Nat.le_trans htop.out hb.size); replace hsw := Lib.hid (Nat.le_trans hsw.out hb.size); replace LB := Lib.hid (LB.out.keep hb)
          clear hb hgw9
          (try go_wp2_with fail)
          refine hK.out _ _ ?_ (fun hHeld => ?_)
          · (try dsimp only)
            exact ⟨b0, q0, q1, q2, q3⟩
          clear hK K
          (try simp only [Act.put, List.setIfInBounds_toArray, List.set_cons_zero, List.set_cons_succ])
          refine wpAnyH_ready (rs := [12]) (by kernel_rfl) (by simp) ?_
          refine AllReadyH.cons (o := ⟨_, _, _, _, _, _⟩) rfl (fun K hK => ?_) AllReadyH.nil
          go_simp
          obtain ⟨wA, hwA⟩ : ∃ wA, wA = w9.alloc (.cells #[.slice (some ⟨gw, 0, none⟩) 2 2] 22) := ⟨_, rfl⟩
          have hb : Below w9.heap.size w9 wA := by rw [hwA]; exact below_new (Below.refl _ _) _
          have HYA : ∀ j u, ([((some ⟨gw, 0, none⟩, 2, 2) : SlV)].flatMap encS)[j]? = some u → wA.cell? (Addr.add ⟨w9.heap.size, 0, none⟩ j) = some u := fun j u hj => by
            rw [hwA]
            rcases j with _ | j
            · injection hj with hj; subst hj; go_simp
            · simp [encS] at hj
          rw [← hwA]
          clear hwA
          replace OW := Lib.hid (OW.out.keep hb)
          replace hgw := Nat.lt_of_lt_of_le hgw hb.size
          replace b0 := cell_keep b0 bl hb; replace bl := lt_keep bl hb; replace q0 := cell_keep q0 ql hb; replace q1 := cell_keep q1 ql hb; replace q2 := cell_keep q2 ql hb; replace q3 := cell_keep q3 ql hb; replace ql := lt_keep ql hb; replace HP := Lib.hid (HP.out.keep hb); replace HB := Lib.hid (below_next HB.out hb); replace htop := Lib.hid (Nat.le_trans htop.out hb.size); replace hsw := Lib.hid (Nat.le_trans hsw.out hb.size); replace LB := Lib.hid (LB.out.keep hb)
          clear hb
          (try go_wp2_with fail)
          refine hK.out _ _ ?_ (fun hHeld => ?_)
          · (try dsimp only)
            exact ⟨b0, q0, q1, q2, q3⟩
          clear hK K
          (try simp only [Act.put, List.setIfInBounds_toArray, List.set_cons_zero, List.set_cons_succ])
          refine wpAnyH_ready (rs := [13]) (by kernel_rfl) (by simp) ?_
          refine AllReadyH.cons (o := ⟨_, _, _, _, _, _⟩) rfl (fun K hK => ?_) AllReadyH.nil
          refine step_appKg (enc := encS) (k := 1) rfl (.tmp 36) (.tmp 48) 28 22 rfl i0 (.slice none 0 0) 24 Tryz.underlying28 HI.out HZ0.out HZ2.out HZ3.out rfl (by decide) (by decide) (fun _ => rfl) (fun v u hu => by simp [encS] at hu; subst hu; rfl) w5.heap.size A' n' c' vs _ 1 _ [((some ⟨gw, 0, none⟩, 2, 2) : SlV)] (by rfl) HP.out.1 (by rfl) rfl HYA (by omega) hsw.out ?_
          intro A7 c7 wB hO7 hg7 hb7
          have P7 := Lib.hid (HP.out.snoc (top' := gw + 1) OW.out (fun y hy => by injection hy with hy; rw [← hy]; exact ⟨HTG.out, Nat.lt_succ_self _⟩) (by have := HTG.out; omega) hO7 hg7)
          have hs7 := Lib.hid (show gw + 1 ≤ wB.heap.size from Nat.le_trans hgw hb7.size)
          replace b0 := (hb7.cell (p := ⟨w.heap.size, 0, none⟩) AL.out).trans b0
          replace HB := Lib.hid (HB.out.trans hb7)
          have hqk : ∀ i v, wA.cell? ⟨gq, i, none⟩ = some v → wB.cell? ⟨gq, i, none⟩ = some v := fun i v h => hg7.cell h (by
            rcases A' with _ | g
            · simp [rowOf]
            · have := LB.out.apart HP.out.1.2
              simp [rowOf]; exact fun e => this e.symm)
          replace q0 := hqk _ _ q0; replace q1 := hqk _ _ q1; replace q2 := hqk _ _ q2; replace q3 := hqk _ _ q3
          clear hO7 hg7 hb7 hqk
          refine hK.out _ _ ?_ (fun hHeld => ?_)
          · (try dsimp only)
            exact ⟨b0, q0, q1, q2, q3⟩
          clear hK K
          (try simp only [Act.put, List.setIfInBounds_toArray, List.set_cons_zero, List.set_cons_succ])
          refine wpAnyH_take (i := 14) (oi := ⟨_, _, _, _, _, _⟩) (v := ?_) rfl (by kernel_rfl) (by kernel_rfl) (by kernel_rfl) (fun _ _ _ h => h) (Or.inl ⟨by rfl, ?_⟩) (by assumption) ?_
          rotate_left
          · intro w hSw
            (try dsimp only at hSw)
            go_simp
            (try with_reducible rfl)
          (try simp only [Act.put, List.setIfInBounds_toArray, List.set_cons_zero, List.set_cons_succ])
          refine wpAnyH_done (by kernel_rfl) ?_ _
          go_wp2
          go_roundw
          case rel => exact ⟨k + 1, n' + 1, c7, gw + 1, A7, vs ++ [(some ⟨gw, 0, none⟩, 2, 2)], by omega, by go_num, rfl, by omega, (by rw [HV.out, List.map_append]; exact P7.out), hs7.out, HB.out⟩
          case measure => simp [intOf]; omega
        | false =>
          have HD := Lib.hid (HCD.out.trans hd)
          have HV := Lib.hid (show (((pairsL W H xs a b).take (k + 1)).filter fun z => doB W z.1 z.2 f t) = (((pairsL W H xs a b).take k).filter fun z => doB W z.1 z.2 f t) from take_no HZ.out hd)
          clear hd
          go_upto_region 8 with fail
          obtain ⟨w6, hw6⟩ : ∃ w6, w6 = wr.alloc (.cells #[.int .i64 (x % W), .int .i64 (x / W), .int .i64 (y % W), .int .i64 (y / W)] 68) := ⟨_, rfl⟩
          obtain ⟨gq, hgq⟩ : ∃ gq, gq = wr.heap.size := ⟨_, rfl⟩
          have q0 : w6.cell? ⟨gq, 0, none⟩ = some (.int .i64 (x % W)) := by rw [hw6, hgq]; go_simp
          have q1 : w6.cell? ⟨gq, 1, none⟩ = some (.int .i64 (x / W)) := by rw [hw6, hgq]; go_simp
          have q2 : w6.cell? ⟨gq, 2, none⟩ = some (.int .i64 (y % W)) := by rw [hw6, hgq]; go_simp
          have q3 : w6.cell? ⟨gq, 3, none⟩ = some (.int .i64 (y / W)) := by rw [hw6, hgq]; go_simp
          have ql : gq < w6.heap.size := by rw [hw6, hgq]; simp
          have hb : Below wr.heap.size wr w6 := by rw [hw6]; exact below_new (Below.refl _ _) _
          have LB := Lib.hid (show LineBox w6 gq from by rw [hw6, hgq]; exact LineBox.new _ _)
          rw [← hw6, ← hgq]
          replace b0 := cell_keep b0 bl hb; replace bl := lt_keep bl hb; replace e0 := cell_keep e0 el hb; replace e1 := cell_keep e1 el hb; replace e2 := cell_keep e2 el hb; replace e3 := cell_keep e3 el hb; replace el := lt_keep el hb
          replace HP := Lib.hid (HP.out.keep hb); replace HB := Lib.hid (below_next HB.out hb); replace htop := Lib.hid (Nat.le_trans htop.out hb.size); replace hsw := Lib.hid (Nat.le_trans hsw.out hb.size)
          clear hw6 hgq hb x0 x1 x2 x3
          go_wp2_with fail
          refine (crosses_any (x % W) (x / W) (y % W) (y / W) (lnL W f t).1.1 (lnL W f t).1.2 (lnL W f t).2.1 (lnL W f t).2.2 _ CX.out.1 CX.out.2 CY.out.1 CY.out.2 CF.out.1.1 CF.out.1.2 CF.out.2.1 CF.out.2.2).mono ?_
          rw [HD.out]
          rintro e w8 ⟨rfl, hb⟩
          replace b0 := cell_keep b0 bl hb; replace bl := lt_keep bl hb; replace q0 := cell_keep q0 ql hb; replace q1 := cell_keep q1 ql hb; replace q2 := cell_keep q2 ql hb; replace q3 := cell_keep q3 ql hb; replace ql := lt_keep ql hb; replace HP := Lib.hid (HP.out.keep hb); replace HB := Lib.hid (below_next HB.out hb); replace htop := Lib.hid (Nat.le_trans htop.out hb.size); replace hsw := Lib.hid (Nat.le_trans hsw.out hb.size); replace LB := Lib.hid (LB.out.keep hb)
          clear hb e0 e1 e2 e3 el
          go_wp2
          go_roundw
          case rel => exact ⟨k + 1, n', c', top, A', vs, by omega, by go_num, rfl, by omega, (by rw [HV.out]; exact HP.out), htop.out, HB.out⟩
          case measure => simp [intOf]; omega
      · have HE := Lib.hid (show crossedV W H xs a b f t = ((((pairsL W H xs a b).take k).filter fun z => doB W z.1 z.2 f t).map pairL) by rw [crossedV, if_pos HOK.out, crossedP, List.take_of_length_le (by rw [HLL.out]; omega)])
        have kn : ¬ (k : Int) < (n1 : Int) := by omega
        clear hpv hbw
        go_wp2
        go_ret2
        exact ⟨_, _, _, by rw [HOK.out]; rfl, by rw [HE.out]; exact OwnSS.of (HP.out.parts.lower B.out.size), below_next B.out HB.out⟩
  · have hk' : (lenB2 [f, t] && okPa W H xs a b [f, t]) = false := by simpa using hk
    have hz9 : okCl W H xs a b f t = false := by rw [okCl_impl, hk']
    have HK := Lib.hid hk'
    clear hk hk'
    go_enter Tryz.func17, Tryz.ntmps17
    go_upto_region 1 with fail
    rw [← hW2]
    clear hW2
    go_wp2_with fail
    refine (isLeapOn_any W H A n c xs a b _ _ _ [f, t] _ (R.out.alloc _) (own_two W2 f t W2.heap.size (Nat.le_refl _)).rd).mono ?_
    rw [HK.out]
    rintro e w3 ⟨rfl, hb9⟩
    have hb := below_box hb9
    clear hb9
    replace a0 := cell_keep a0 al hb; replace a1 := cell_keep a1 al hb; replace a2 := cell_keep a2 al hb; replace al := lt_keep al hb; replace l0 := cell_keep l0 ll hb; replace l1 := cell_keep l1 ll hb; replace ll := lt_keep ll hb; replace R := Lib.hid (R.out.keep hb); replace B := Lib.hid (below_next B.out hb)
    clear hb
    go_wp2
    go_ret2
    exact ⟨none, 0, 0, by rw [hz9]; rfl, by rw [crossedV, if_neg (by rw [hz9]; simp)]; exact OwnSS.of (PartsAt.none_ _ _ 0), B.out⟩

end Go.Proofs.YtbpgkigoboobeaaGreat

namespace Go.Proofs.YtbpgkigoboobeaaGreat
open Go.RowKit

/-- A slice of slices that reads as a list of pairs; vs: its elements. -/
def RdV (w : World) (A : Option Addr) (n : Nat) (vs : List SlV) (zs : List (Int × Int)) : Prop :=
  zs.length = n ∧ vs.length = n ∧ n ≤ 1000 ∧ (∀ (k : Nat) (v : SlV) (z : Int × Int), vs[k]? = some v → zs[k]? = some z → ∃ a1 c1, v = (some a1, 2, c1) ∧ Rd w (some a1) 2 [z.1, z.2]) ∧
    ∀ (k : Nat) (v : SlV), vs[k]? = some v → ∃ b off, A = some ⟨b, off, none⟩ ∧ b < w.heap.size ∧ w.cell? ⟨b, off + k, none⟩ = some (.slice v.1 v.2.1 v.2.2)
theorem RdV.keep {w w' : World} {A : Option Addr} {n : Nat} {vs : List SlV} {zs : List (Int × Int)} (h : RdV w A n vs zs) (hb : Below w.heap.size w w') : RdV w' A n vs zs := by
  obtain ⟨h1, h2, h3, h4, h5⟩ := h
  refine ⟨h1, h2, h3, fun k v z hv hz => ?_, fun k v hv => ?_⟩
  · obtain ⟨a1, c1, e, hr⟩ := h4 k v z hv hz
    exact ⟨a1, c1, e, hr.keep hb⟩
  · obtain ⟨b, off, e, hl, hc⟩ := h5 k v hv
    exact ⟨b, off, e, Nat.lt_of_lt_of_le hl hb.size, cell_keep hc hl hb⟩
theorem RdV.drew1 {w : World} {A : Option Addr} {n : Nat} {vs : List SlV} {zs : List (Int × Int)} (h : RdV w A n vs zs) : RdV w.drew A n vs zs := h
theorem RdV.at_ {w : World} {A : Option Addr} {n : Nat} {vs : List SlV} {zs : List (Int × Int)} (h : RdV w A n vs zs) {k : Nat} (hk : k < n) :
    ∃ b off a1 c1 x y, A = some ⟨b, off, none⟩ ∧ b < w.heap.size ∧ zs[k]? = some (x, y) ∧ vs[k]? = some (some a1, 2, c1) ∧ w.cell? ⟨b, off + k, none⟩ = some (.slice (some a1) 2 c1) ∧ Rd w (some a1) 2 [x, y] := by
  obtain ⟨h1, h2, h3, h4, h5⟩ := h
  have hv : vs[k]? = some vs[k] := List.getElem?_eq_getElem (by omega)
  have hz : zs[k]? = some zs[k] := List.getElem?_eq_getElem (by omega)
  obtain ⟨a1, c1, e, hr⟩ := h4 k _ _ hv hz
  obtain ⟨b, off, e2, hl, hc⟩ := h5 k _ hv
  rw [e] at hc hv
  exact ⟨b, off, a1, c1, _, _, e2, hl, hz, hv, hc, hr⟩
/-- The two cells of an element. -/
theorem rd_two {w : World} {a1 : Addr} {x y : Int} (h : Rd w (some a1) 2 [x, y]) : ∃ b off, a1 = ⟨b, off, none⟩ ∧ b < w.heap.size ∧ w.cell? ⟨b, off, none⟩ = some (.int .i64 x) ∧ w.cell? ⟨b, off + 1, none⟩ = some (.int .i64 y) := by
  obtain ⟨b, off, u, e, hl, hu, hc⟩ := h.at_ (k := 0) (by omega)
  obtain ⟨b2, off2, v, e2, _, hv, hc2⟩ := h.at_ (k := 1) (by omega)
  injection e with e
  subst e
  injection e2 with e2
  injection e2 with e3 e4 _
  subst e3 e4
  injection hu with hu; injection hv with hv
  subst hu hv
  exact ⟨b, off, rfl, hl, hc, hc2⟩
theorem RdV.own {w : World} {lo : Nat} {A : Option Addr} {n c : Nat} {vs : List SlV} {zs : List (Int × Int)} (hK : OwnK encS 1 22 w lo A n c vs) (hz : zs.length = n) (hn : n ≤ 1000)
    (hr : ∀ (k : Nat) (v : SlV) (z : Int × Int), vs[k]? = some v → zs[k]? = some z → ∃ a1 c1, v = (some a1, 2, c1) ∧ Rd w (some a1) 2 [z.1, z.2]) : RdV w A n vs zs := by
  refine ⟨hz, hK.len, hn, hr, fun k v hv => ?_⟩
  have hk : k < n := by rw [← hK.len]; exact (List.getElem?_eq_some_iff.1 hv).1
  obtain ⟨g, rfl, _, hg⟩ := hK.some_ hk
  have hc := OwnK.cell (enc := encS) (k := 1) (j := 0) (fun _ => rfl) hK hv (show (encS v)[0]? = some (.slice v.1 v.2.1 v.2.2) from rfl)
  rw [show k * 1 + 0 = k by omega] at hc
  exact ⟨g, 0, rfl, hg, by rw [Nat.zero_add]; exact hc⟩
theorem RdV.cells {w : World} {ad : Addr} {n : Nat} {vs : List SlV} {zs : List (Int × Int)} (h : RdV w (some ad) n vs zs) : ∀ j u, (vs.flatMap encS)[j]? = some u → w.cell? (ad.add j) = some u := fun j u hj => by
  have hjl : j < vs.length := by
    have := (List.getElem?_eq_some_iff.1 hj).1
    rw [flat_len (k := 1) (fun _ => rfl)] at this
    omega
  have hv : vs[j]? = some vs[j] := List.getElem?_eq_getElem hjl
  have h2 := flat_at (enc := encS) (k := 1) (fun _ => rfl) vs hv (show 0 < 1 by decide)
  rw [show j * 1 + 0 = j by omega, hj] at h2
  obtain ⟨b, off, e, _, hc⟩ := h.2.2.2.2 j _ hv
  injection e with e
  subst e
  rw [Addr.add_lit, hc, h2]
  rfl
theorem RdV.nil_ {w : World} {n : Nat} {vs : List SlV} {zs : List (Int × Int)} (h : RdV w none n vs zs) : n = 0 := by
  rcases Nat.eq_zero_or_pos n with h0 | h0
  · exact h0
  · obtain ⟨_, _, _, _, _, _, e, _⟩ := h.at_ h0; cases e
theorem own_empty (w : World) (lo : Nat) (h : lo ≤ w.heap.size) : OwnK encS 1 22 (w.alloc (.cells #[] 22)) lo (some ⟨w.heap.size, 0, none⟩) 0 0 [] :=
  ⟨rfl, World.ownsRow_made (base := lo) (e := 22) (size := 1) w #[] 0 h (Nat.zero_le _) rfl⟩

set_option maxHeartbeats 400000 in
theorem l1Most2_any (x y : Int) (w : World) :
    Calls Tryz.prog 72 #[.int .i64 x, .int .i64 y] w fun e w' => e = .returned (.int .i64 (max x y)) ∧ w = w' := by
  by_cases h : y < x
  · go_enter Tryz.func72, Tryz.ntmps72
    go_wp2
    go_ret
    exact ⟨ret_int (by omega), rfl⟩
  · go_enter Tryz.func72, Tryz.ntmps72
    go_wp2
    go_ret
    exact ⟨ret_int (by omega), rfl⟩
theorem meet_parts (W : Int) (p q : Int × Int) : meetB W p q = (doB W q.1 q.2 p.1 p.2 || ([p.1, p.2].contains q.1 || [p.1, p.2].contains q.2)) := by
  rw [meetB]
  congr 1
  have h : ∀ x a b : Int, decide (x = a ∨ x = b) = [a, b].contains x := fun x a b => by
    rw [Bool.eq_iff_iff]; simp
  rw [h, h]
theorem fits_snoc {W : Int} {ch : List (Int × Int)} {j : Nat} {q p : Int × Int} (h : ch[j]? = some q) : fitsA (meetB W) (ch.take (j + 1)) p = (fitsA (meetB W) (ch.take j) p && !meetB W q p) := by
  rw [fitsA, List.take_add_one, h, List.all_append]; simp [fitsA]
theorem apA_step {W : Int} {zs ch : List (Int × Int)} {k : Nat} {p : Int × Int} (h : zs[k]? = some p) : apA (meetB W) ch (zs.drop k) = max (if fitsA (meetB W) ch p then apA (meetB W) (ch ++ [p]) (zs.drop (k + 1)) else ch.length) (apA (meetB W) ch (zs.drop (k + 1))) := by
  have hk := (List.getElem?_eq_some_iff.1 h).1
  rw [List.drop_eq_getElem_cons hk, (List.getElem?_eq_some_iff.1 h).2, apA]
theorem apA_end {W : Int} {zs ch : List (Int × Int)} {k : Nat} (h : zs.length ≤ k) : apA (meetB W) ch (zs.drop k) = ch.length := by
  rw [List.drop_of_length_le h, apA]

set_option maxRecDepth 100000 in
set_option maxHeartbeats 9000000 in
theorem crApart_any (W H : Int) (A : Option Addr) (n c : Nat) (A1 : Option Addr) (n1 c1 : Nat) (vs : List SlV) (zs : List (Int × Int)) (hW : 1 ≤ W ∧ W ≤ 8) (hz64 : ∀ z ∈ zs, (0 ≤ z.1 ∧ z.1 ≤ 64) ∧ (0 ≤ z.2 ∧ z.2 ≤ 64)) (hn1 : n1 ≤ 24) : ∀ (N : Nat) (A2 : Option Addr) (n2 c2 : Nat) (us : List SlV) (ch : List (Int × Int)) (k : Nat) (w : World), n1 - k ≤ N → k ≤ n1 → n2 ≤ k →
    RdV w A1 n1 vs zs → RdV w A2 n2 us ch → (∀ z ∈ ch, (0 ≤ z.1 ∧ z.1 ≤ 64) ∧ (0 ≤ z.2 ∧ z.2 ≤ 64)) →
    Calls Tryz.prog 43 #[brd W H A n c, .slice A1 n1 c1, .slice A2 n2 c2, .int .i64 (k : Int)] w fun e w' => e = .returned (.int .i64 (apA (meetB W) ch (zs.drop k) : Int)) ∧ Below w.heap.size w w' := by
  intro N
  induction N with
  | zero =>
    intro A2 n2 c2 us ch k w hN hk hn2 hzs hch hc64
    obtain rfl : k = n1 := by omega
    have HE := Lib.hid (show apA (meetB W) ch (zs.drop k) = n2 by rw [apA_end (by rw [hzs.1]; exact Nat.le_refl _), hch.1])
    clear hzs hch
    go_enter Tryz.func43, Tryz.ntmps43
    go_wp2
    go_ret
    exact ⟨ret_int (by rw [HE.out]), below_new (Below.refl _ _) _⟩
  | succ N ih =>
    intro A2 n2 c2 us ch k w hN hk hn2 hzs hch hc64
    by_cases hkn : k = n1
    · subst hkn
      have HE := Lib.hid (show apA (meetB W) ch (zs.drop k) = n2 by rw [apA_end (by rw [hzs.1]; exact Nat.le_refl _), hch.1])
      clear hzs hch ih
      go_enter Tryz.func43, Tryz.ntmps43
      go_wp2
      go_ret
      exact ⟨ret_int (by rw [HE.out]), below_new (Below.refl _ _) _⟩
    · have hlt : k < n1 := by omega
      have hkne : ((k : Int) == (n1 : Int)) = false := by rw [beq_eq_false_iff_ne]; omega
      have HW := Lib.hid hW; have IH := Lib.hid ih; have HC64 := Lib.hid hc64; have HZ64 := Lib.hid hz64
      clear ih hc64
      obtain ⟨W2, hW2⟩ : ∃ W2, W2 = w.alloc (.cells #[.int .i64 W, .int .i64 H, .slice A n c] 31) := ⟨_, rfl⟩
      have a0 : W2.cell? ⟨w.heap.size, 0, none⟩ = some (.int .i64 W) := by rw [hW2]; go_simp
      have a1 : W2.cell? ⟨w.heap.size, 1, none⟩ = some (.int .i64 H) := by rw [hW2]; go_simp
      have a2 : W2.cell? ⟨w.heap.size, 2, none⟩ = some (.slice A n c) := by rw [hW2]; go_simp
      have al : w.heap.size < W2.heap.size := by rw [hW2]; simp
      have B := Lib.hid (show Below w.heap.size w W2 by rw [hW2]; exact below_new (Below.refl _ _) _)
      have RL := Lib.hid (hzs.keep B.out); have RC := Lib.hid (hch.keep B.out)
      have HCL := Lib.hid hch.1; have HZL := Lib.hid hzs.1
      clear hzs hch
      obtain ⟨bl, ol, ap, cp, x, y, rfl, gl, hz, hv, l0, hrp⟩ := RL.out.at_ hlt
      have RP := Lib.hid hrp
      have HZ := Lib.hid hz; have HV := Lib.hid hv
      obtain ⟨⟨hx1, hx2⟩, hy1, hy2⟩ := hz64 _ (List.mem_of_getElem? hz)
      have HX64 := Lib.hid (show 0 ≤ x ∧ x ≤ 64 from ⟨hx1, hx2⟩); have HY64 := Lib.hid (show 0 ≤ y ∧ y ≤ 64 from ⟨hy1, hy2⟩)
      have k0 : (0 : Int) ≤ (k : Int) := by omega
      have kn : (k : Int) < (n1 : Int) := by omega
      clear hz hv hrp hx1 hx2 hy1 hy2
      go_enter Tryz.func43, Tryz.ntmps43
      go_upto_region 1 with fail
      rw [← hW2]
      clear hW2
      go_wp2_with fail
      go_loopw [11, 27] (fun fv i wr => ∃ j : Nat, j ≤ n2 ∧ i = .int .i64 j ∧ fv = .bool (fitsA (meetB W) (ch.take j) (x, y)) ∧ Below W2.heap.size W2 wr) (fun _ i _ => n2 - (intOf i).toNat)
      case atStart => exact ⟨0, Nat.zero_le _, rfl, rfl, Below.refl _ _⟩
      case round =>
        obtain ⟨j, hj, rfl, rfl, hbs⟩ := hrel
        have HBS := Lib.hid hbs
        have d0 := cell_keep a0 al hbs; have d1 := cell_keep a1 al hbs; have d2 := cell_keep a2 al hbs; have dl := lt_keep al hbs
        by_cases hlj : j < n2
        · obtain ⟨bc, oc, aq, cq, u, v, rfl, gc, hq, hv, c0, hrq⟩ := RC.out.at_ hlj
          have HQ := Lib.hid hq
          obtain ⟨⟨hu1, hu2⟩, hv1, hv2⟩ := HC64.out _ (List.mem_of_getElem? hq)
          have HU64 := Lib.hid (show 0 ≤ u ∧ u ≤ 64 from ⟨hu1, hu2⟩); have HV64 := Lib.hid (show 0 ≤ v ∧ v ≤ 64 from ⟨hv1, hv2⟩)
          obtain ⟨gp, op, rfl, xl, x0, y0⟩ := rd_two RP.out
          obtain ⟨gq, oq, rfl, ul, u0, v0⟩ := rd_two hrq
          have RQ := Lib.hid (hrq.keep hbs)
          replace c0 := cell_keep c0 gc hbs
          replace x0 := cell_keep x0 xl hbs; replace y0 := cell_keep y0 xl hbs; replace xl := lt_keep xl hbs
          replace u0 := cell_keep u0 ul hbs; replace v0 := cell_keep v0 ul hbs; replace ul := lt_keep ul hbs
          have j0 : (0 : Int) ≤ (j : Int) := by omega
          have jn : (j : Int) < (n2 : Int) := by omega
          clear hq hv hrq hu1 hu2 hv1 hv2 hbs gc
          cases hd : doB W x y u v with
          | true =>
            have HD := Lib.hid hd
            clear hd
            have HM := Lib.hid (show meetB W (u, v) (x, y) = true by rw [meet_parts, HD.out]; rfl)
            have HN := Lib.hid (show fitsA (meetB W) (ch.take (j + 1)) (x, y) = false by rw [fits_snoc HQ.out, HM.out]; simp)
            go_wp2_with fail
            refine wp_region_held_drew (S := fun w' => w'.cell? ⟨w.heap.size, 0, none⟩ = some (.int .i64 W) ∧ w'.cell? ⟨w.heap.size, 1, none⟩ = some (.int .i64 H) ∧ w'.cell? ⟨w.heap.size, 2, none⟩ = some (.slice A n c) ∧ w'.cell? ⟨gp, op, none⟩ = some (.int .i64 x) ∧ w'.cell? ⟨gp, op + 1, none⟩ = some (.int .i64 y) ∧ w'.cell? ⟨gq, oq, none⟩ = some (.int .i64 u) ∧ w'.cell? ⟨gq, oq + 1, none⟩ = some (.int .i64 v)) (by kernel_rfl) ?_ (fun hHeld => ?_)
            · (try dsimp only)
              exact ⟨d0, d1, d2, x0, y0, u0, v0⟩
            refine wpAnyH_take (i := 0) (oi := ⟨_, _, _, _, _, _⟩) (v := ?_) rfl (by kernel_rfl) (by kernel_rfl) (by kernel_rfl) (fun _ _ _ h => h) (Or.inl ⟨by rfl, ?_⟩) (by assumption) ?_
            rotate_left
            · intro w hSw
              (try dsimp only at hSw)
              go_simp
              (try with_reducible rfl)
            (try simp only [Act.put, List.setIfInBounds_toArray, List.set_cons_zero, List.set_cons_succ])
            refine wpAnyH_take (i := 1) (oi := ⟨_, _, _, _, _, _⟩) (v := ?_) rfl (by kernel_rfl) (by kernel_rfl) (by kernel_rfl) (fun _ _ _ h => h) (Or.inl ⟨by rfl, ?_⟩) (by assumption) ?_
            rotate_left
            · intro w hSw
              (try dsimp only at hSw)
              go_simp
              (try with_reducible rfl)
            (try simp only [Act.put, List.setIfInBounds_toArray, List.set_cons_zero, List.set_cons_succ])
            refine wpAnyH_take (i := 2) (oi := ⟨_, _, _, _, _, _⟩) (v := ?_) rfl (by kernel_rfl) (by kernel_rfl) (by kernel_rfl) (fun _ _ _ h => h) (Or.inl ⟨by rfl, ?_⟩) (by assumption) ?_
            rotate_left
            · intro w hSw
              (try dsimp only at hSw)
              go_simp
              (try with_reducible rfl)
            (try simp only [Act.put, List.setIfInBounds_toArray, List.set_cons_zero, List.set_cons_succ])
            refine wpAnyH_take (i := 3) (oi := ⟨_, _, _, _, _, _⟩) (v := ?_) rfl (by kernel_rfl) (by kernel_rfl) (by kernel_rfl) (fun _ _ _ h => h) (Or.inl ⟨by rfl, ?_⟩) (by assumption) ?_
            rotate_left
            · intro w hSw
              (try dsimp only at hSw)
              go_simp
              (try with_reducible rfl)
            (try simp only [Act.put, List.setIfInBounds_toArray, List.set_cons_zero, List.set_cons_succ])
            refine wpAnyH_take (i := 4) (oi := ⟨_, _, _, _, _, _⟩) (v := ?_) rfl (by kernel_rfl) (by kernel_rfl) (by kernel_rfl) (fun _ _ _ h => h) (Or.inl ⟨by rfl, ?_⟩) (by assumption) ?_
            rotate_left
            · intro w hSw
              (try dsimp only at hSw)
              go_simp
              (try with_reducible rfl)
            (try simp only [Act.put, List.setIfInBounds_toArray, List.set_cons_zero, List.set_cons_succ])
            refine wpAnyH_take (i := 5) (oi := ⟨_, _, _, _, _, _⟩) (v := ?_) rfl (by kernel_rfl) (by kernel_rfl) (by kernel_rfl) (fun _ _ _ h => h) (Or.inl ⟨by rfl, ?_⟩) (by assumption) ?_
            rotate_left
            · intro w hSw
              (try dsimp only at hSw)
              go_simp
              (try with_reducible rfl)
            (try simp only [Act.put, List.setIfInBounds_toArray, List.set_cons_zero, List.set_cons_succ])
            refine wpAnyH_take (i := 6) (oi := ⟨_, _, _, _, _, _⟩) (v := ?_) rfl (by kernel_rfl) (by kernel_rfl) (by kernel_rfl) (fun _ _ _ h => h) (Or.inl ⟨by rfl, ?_⟩) (by assumption) ?_
            rotate_left
            · intro w hSw
              (try dsimp only at hSw)
              go_simp
              (try with_reducible rfl)
            (try simp only [Act.put, List.setIfInBounds_toArray, List.set_cons_zero, List.set_cons_succ])
            refine wpAnyH_take (i := 7) (oi := ⟨_, _, _, _, _, _⟩) (v := ?_) rfl (by kernel_rfl) (by kernel_rfl) (by kernel_rfl) (fun _ _ _ h => h) (Or.inl ⟨by rfl, ?_⟩) (by assumption) ?_
            rotate_left
            · intro w hSw
              (try dsimp only at hSw)
              go_simp
              (try with_reducible rfl)
            (try simp only [Act.put, List.setIfInBounds_toArray, List.set_cons_zero, List.set_cons_succ])
            refine wpAnyH_take (i := 8) (oi := ⟨_, _, _, _, _, _⟩) (v := ?_) rfl (by kernel_rfl) (by kernel_rfl) (by kernel_rfl) (fun _ _ _ h => h) (Or.inl ⟨by rfl, ?_⟩) (by assumption) ?_
            rotate_left
            · intro w hSw
              (try dsimp only at hSw)
              go_simp
              (try with_reducible rfl)
            (try simp only [Act.put, List.setIfInBounds_toArray, List.set_cons_zero, List.set_cons_succ])
            refine wpAnyH_take (i := 9) (oi := ⟨_, _, _, _, _, _⟩) (v := ?_) rfl (by kernel_rfl) (by kernel_rfl) (by kernel_rfl) (fun _ _ _ h => h) (Or.inl ⟨by rfl, ?_⟩) (by assumption) ?_
            rotate_left
            · intro w hSw
              (try dsimp only at hSw)
              go_simp
              (try with_reducible rfl)
            (try simp only [Act.put, List.setIfInBounds_toArray, List.set_cons_zero, List.set_cons_succ])
            refine wpAnyH_take (i := 10) (oi := ⟨_, _, _, _, _, _⟩) (v := ?_) rfl (by kernel_rfl) (by kernel_rfl) (by kernel_rfl) (fun _ _ _ h => h) (Or.inl ⟨by rfl, ?_⟩) (by assumption) ?_
            rotate_left
            · intro w hSw
              (try dsimp only at hSw)
              go_simp
              (try with_reducible rfl)
            (try simp only [Act.put, List.setIfInBounds_toArray, List.set_cons_zero, List.set_cons_succ])
            refine wpAnyH_take (i := 11) (oi := ⟨_, _, _, _, _, _⟩) (v := ?_) rfl (by kernel_rfl) (by kernel_rfl) (by kernel_rfl) (fun _ _ _ h => h) (Or.inl ⟨by rfl, ?_⟩) (by assumption) ?_
            rotate_left
            · intro w hSw
              (try dsimp only at hSw)
              go_simp
              (try with_reducible rfl)
            (try simp only [Act.put, List.setIfInBounds_toArray, List.set_cons_zero, List.set_cons_succ])
            refine wpAnyH_take (i := 12) (oi := ⟨_, _, _, _, _, _⟩) (v := ?_) rfl (by kernel_rfl) (by kernel_rfl) (by kernel_rfl) (fun _ _ _ h => h) (Or.inl ⟨by rfl, ?_⟩) (by assumption) ?_
            rotate_left
            · intro w hSw
              (try dsimp only at hSw)
              go_simp
              (try with_reducible rfl)
            (try simp only [Act.put, List.setIfInBounds_toArray, List.set_cons_zero, List.set_cons_succ])
            refine wpAnyH_ready (rs := [13]) (by kernel_rfl) (by simp) ?_
            refine AllReadyH.cons (o := ⟨_, _, _, _, _, _⟩) rfl (fun K hK => ?_) AllReadyH.nil
            go_simp
            (go_at_call 36; refine (crDo_any W H A n c x y u v _ HW.out HX64.out HY64.out HU64.out HV64.out).mono ?_; rw [HD.out]; rintro e wz ⟨rfl, hb⟩; (repeat (first | replace hb := below_undrew hb | replace hb := below_undrewN hb)); replace d0 := cell_keep d0 dl hb; replace d1 := cell_keep d1 dl hb; replace d2 := cell_keep d2 dl hb; replace dl := lt_keep dl hb; replace x0 := cell_keep x0 xl hb; replace y0 := cell_keep y0 xl hb; replace xl := lt_keep xl hb; replace u0 := cell_keep u0 ul hb; replace v0 := cell_keep v0 ul hb; replace ul := lt_keep ul hb; replace RQ := Lib.hid (RQ.out.keep hb); replace HBS := Lib.hid (below_next HBS.out hb); clear hb)
            (try go_wp2_with fail)
            refine hK.out _ _ ?_ (fun hHeld => ?_)
            · (try dsimp only)
              exact ⟨d0, d1, d2, x0, y0, u0, v0⟩
            clear hK K
            (try simp only [Act.put, List.setIfInBounds_toArray, List.set_cons_zero, List.set_cons_succ])
            refine wpAnyH_take (i := 14) (oi := ⟨_, _, _, _, _, _⟩) (v := ?_) rfl (by kernel_rfl) (by kernel_rfl) (by kernel_rfl) (fun _ _ _ h => h) (Or.inl ⟨by rfl, ?_⟩) (by assumption) ?_
            rotate_left
            · intro w hSw
              (try dsimp only at hSw)
              go_simp
              (try with_reducible rfl)
            (try simp only [Act.put, List.setIfInBounds_toArray, List.set_cons_zero, List.set_cons_succ])
            refine wpAnyH_take (i := 15) (oi := ⟨_, _, _, _, _, _⟩) (v := undef) rfl (by kernel_rfl) (by kernel_rfl) (by kernel_rfl) (fun _ _ _ h => h) (Or.inr ⟨by rfl, rfl⟩) (by assumption) ?_
            (try simp only [Act.put, List.setIfInBounds_toArray, List.set_cons_zero, List.set_cons_succ])
            refine wpAnyH_take (i := 16) (oi := ⟨_, _, _, _, _, _⟩) (v := undef) rfl (by kernel_rfl) (by kernel_rfl) (by kernel_rfl) (fun _ _ _ h => h) (Or.inr ⟨by rfl, rfl⟩) (by assumption) ?_
            (try simp only [Act.put, List.setIfInBounds_toArray, List.set_cons_zero, List.set_cons_succ])
            refine wpAnyH_take (i := 17) (oi := ⟨_, _, _, _, _, _⟩) (v := undef) rfl (by kernel_rfl) (by kernel_rfl) (by kernel_rfl) (fun _ _ _ h => h) (Or.inr ⟨by rfl, rfl⟩) (by assumption) ?_
            (try simp only [Act.put, List.setIfInBounds_toArray, List.set_cons_zero, List.set_cons_succ])
            refine wpAnyH_take (i := 18) (oi := ⟨_, _, _, _, _, _⟩) (v := undef) rfl (by kernel_rfl) (by kernel_rfl) (by kernel_rfl) (fun _ _ _ h => h) (Or.inr ⟨by rfl, rfl⟩) (by assumption) ?_
            (try simp only [Act.put, List.setIfInBounds_toArray, List.set_cons_zero, List.set_cons_succ])
            refine wpAnyH_take (i := 19) (oi := ⟨_, _, _, _, _, _⟩) (v := undef) rfl (by kernel_rfl) (by kernel_rfl) (by kernel_rfl) (fun _ _ _ h => h) (Or.inr ⟨by rfl, rfl⟩) (by assumption) ?_
            (try simp only [Act.put, List.setIfInBounds_toArray, List.set_cons_zero, List.set_cons_succ])
            refine wpAnyH_take (i := 20) (oi := ⟨_, _, _, _, _, _⟩) (v := ?_) rfl (by kernel_rfl) (by kernel_rfl) (by kernel_rfl) (fun _ _ _ h => h) (Or.inl ⟨by rfl, ?_⟩) (by assumption) ?_
            rotate_left
            · intro w hSw
              (try dsimp only at hSw)
              go_simp
              (try with_reducible rfl)
            (try simp only [Act.put, List.setIfInBounds_toArray, List.set_cons_zero, List.set_cons_succ])
            refine wpAnyH_take (i := 21) (oi := ⟨_, _, _, _, _, _⟩) (v := ?_) rfl (by kernel_rfl) (by kernel_rfl) (by kernel_rfl) (fun _ _ _ h => h) (Or.inl ⟨by rfl, ?_⟩) (by assumption) ?_
            rotate_left
            · intro w hSw
              (try dsimp only at hSw)
              go_simp
              (try with_reducible rfl)
            (try simp only [Act.put, List.setIfInBounds_toArray, List.set_cons_zero, List.set_cons_succ])
            refine wpAnyH_take (i := 22) (oi := ⟨_, _, _, _, _, _⟩) (v := undef) rfl (by kernel_rfl) (by kernel_rfl) (by kernel_rfl) (fun _ _ _ h => h) (Or.inr ⟨by rfl, rfl⟩) (by assumption) ?_
            (try simp only [Act.put, List.setIfInBounds_toArray, List.set_cons_zero, List.set_cons_succ])
            refine wpAnyH_take (i := 23) (oi := ⟨_, _, _, _, _, _⟩) (v := undef) rfl (by kernel_rfl) (by kernel_rfl) (by kernel_rfl) (fun _ _ _ h => h) (Or.inr ⟨by rfl, rfl⟩) (by assumption) ?_
            (try simp only [Act.put, List.setIfInBounds_toArray, List.set_cons_zero, List.set_cons_succ])
            refine wpAnyH_take (i := 24) (oi := ⟨_, _, _, _, _, _⟩) (v := undef) rfl (by kernel_rfl) (by kernel_rfl) (by kernel_rfl) (fun _ _ _ h => h) (Or.inr ⟨by rfl, rfl⟩) (by assumption) ?_
            (try simp only [Act.put, List.setIfInBounds_toArray, List.set_cons_zero, List.set_cons_succ])
            refine wpAnyH_take (i := 25) (oi := ⟨_, _, _, _, _, _⟩) (v := undef) rfl (by kernel_rfl) (by kernel_rfl) (by kernel_rfl) (fun _ _ _ h => h) (Or.inr ⟨by rfl, rfl⟩) (by assumption) ?_
            (try simp only [Act.put, List.setIfInBounds_toArray, List.set_cons_zero, List.set_cons_succ])
            refine wpAnyH_take (i := 26) (oi := ⟨_, _, _, _, _, _⟩) (v := undef) rfl (by kernel_rfl) (by kernel_rfl) (by kernel_rfl) (fun _ _ _ h => h) (Or.inr ⟨by rfl, rfl⟩) (by assumption) ?_
            (try simp only [Act.put, List.setIfInBounds_toArray, List.set_cons_zero, List.set_cons_succ])
            refine wpAnyH_take (i := 27) (oi := ⟨_, _, _, _, _, _⟩) (v := ?_) rfl (by kernel_rfl) (by kernel_rfl) (by kernel_rfl) (fun _ _ _ h => h) (Or.inl ⟨by rfl, ?_⟩) (by assumption) ?_
            rotate_left
            · intro w hSw
              (try dsimp only at hSw)
              go_simp
              (try with_reducible rfl)
            (try simp only [Act.put, List.setIfInBounds_toArray, List.set_cons_zero, List.set_cons_succ])
            refine wpAnyH_done (by kernel_rfl) ?_ _
            go_wp2
            go_roundw
            case rel => exact ⟨j + 1, by omega, by go_num, by rw [HN.out], by first | exact HBS.out | exact below_drewN HBS.out _ | exact HBS.out.drew⟩
            case measure => simp [intOf]; omega
          | false =>
            have HD := Lib.hid hd
            clear hd
            cases hx1 : [u, v].contains x with
            | true =>
              have HX1 := Lib.hid hx1
              clear hx1
              have HM := Lib.hid (show meetB W (u, v) (x, y) = true by rw [meet_parts, HD.out, HX1.out]; rfl)
              have HN := Lib.hid (show fitsA (meetB W) (ch.take (j + 1)) (x, y) = false by rw [fits_snoc HQ.out, HM.out]; simp)
              go_wp2_with fail
              refine wp_region_held_drew (S := fun w' => w'.cell? ⟨w.heap.size, 0, none⟩ = some (.int .i64 W) ∧ w'.cell? ⟨w.heap.size, 1, none⟩ = some (.int .i64 H) ∧ w'.cell? ⟨w.heap.size, 2, none⟩ = some (.slice A n c) ∧ w'.cell? ⟨gp, op, none⟩ = some (.int .i64 x) ∧ w'.cell? ⟨gp, op + 1, none⟩ = some (.int .i64 y) ∧ w'.cell? ⟨gq, oq, none⟩ = some (.int .i64 u) ∧ w'.cell? ⟨gq, oq + 1, none⟩ = some (.int .i64 v)) (by kernel_rfl) ?_ (fun hHeld => ?_)
              · (try dsimp only)
                exact ⟨d0, d1, d2, x0, y0, u0, v0⟩
              refine wpAnyH_take (i := 0) (oi := ⟨_, _, _, _, _, _⟩) (v := ?_) rfl (by kernel_rfl) (by kernel_rfl) (by kernel_rfl) (fun _ _ _ h => h) (Or.inl ⟨by rfl, ?_⟩) (by assumption) ?_
              rotate_left
              · intro w hSw
                (try dsimp only at hSw)
                go_simp
                (try with_reducible rfl)
              (try simp only [Act.put, List.setIfInBounds_toArray, List.set_cons_zero, List.set_cons_succ])
              refine wpAnyH_take (i := 1) (oi := ⟨_, _, _, _, _, _⟩) (v := ?_) rfl (by kernel_rfl) (by kernel_rfl) (by kernel_rfl) (fun _ _ _ h => h) (Or.inl ⟨by rfl, ?_⟩) (by assumption) ?_
              rotate_left
              · intro w hSw
                (try dsimp only at hSw)
                go_simp
                (try with_reducible rfl)
              (try simp only [Act.put, List.setIfInBounds_toArray, List.set_cons_zero, List.set_cons_succ])
              refine wpAnyH_take (i := 2) (oi := ⟨_, _, _, _, _, _⟩) (v := ?_) rfl (by kernel_rfl) (by kernel_rfl) (by kernel_rfl) (fun _ _ _ h => h) (Or.inl ⟨by rfl, ?_⟩) (by assumption) ?_
              rotate_left
              · intro w hSw
                (try dsimp only at hSw)
                go_simp
                (try with_reducible rfl)
              (try simp only [Act.put, List.setIfInBounds_toArray, List.set_cons_zero, List.set_cons_succ])
              refine wpAnyH_take (i := 3) (oi := ⟨_, _, _, _, _, _⟩) (v := ?_) rfl (by kernel_rfl) (by kernel_rfl) (by kernel_rfl) (fun _ _ _ h => h) (Or.inl ⟨by rfl, ?_⟩) (by assumption) ?_
              rotate_left
              · intro w hSw
                (try dsimp only at hSw)
                go_simp
                (try with_reducible rfl)
              (try simp only [Act.put, List.setIfInBounds_toArray, List.set_cons_zero, List.set_cons_succ])
              refine wpAnyH_take (i := 4) (oi := ⟨_, _, _, _, _, _⟩) (v := ?_) rfl (by kernel_rfl) (by kernel_rfl) (by kernel_rfl) (fun _ _ _ h => h) (Or.inl ⟨by rfl, ?_⟩) (by assumption) ?_
              rotate_left
              · intro w hSw
                (try dsimp only at hSw)
                go_simp
                (try with_reducible rfl)
              (try simp only [Act.put, List.setIfInBounds_toArray, List.set_cons_zero, List.set_cons_succ])
              refine wpAnyH_take (i := 5) (oi := ⟨_, _, _, _, _, _⟩) (v := ?_) rfl (by kernel_rfl) (by kernel_rfl) (by kernel_rfl) (fun _ _ _ h => h) (Or.inl ⟨by rfl, ?_⟩) (by assumption) ?_
              rotate_left
              · intro w hSw
                (try dsimp only at hSw)
                go_simp
                (try with_reducible rfl)
              (try simp only [Act.put, List.setIfInBounds_toArray, List.set_cons_zero, List.set_cons_succ])
              refine wpAnyH_take (i := 6) (oi := ⟨_, _, _, _, _, _⟩) (v := ?_) rfl (by kernel_rfl) (by kernel_rfl) (by kernel_rfl) (fun _ _ _ h => h) (Or.inl ⟨by rfl, ?_⟩) (by assumption) ?_
              rotate_left
              · intro w hSw
                (try dsimp only at hSw)
                go_simp
                (try with_reducible rfl)
              (try simp only [Act.put, List.setIfInBounds_toArray, List.set_cons_zero, List.set_cons_succ])
              refine wpAnyH_take (i := 7) (oi := ⟨_, _, _, _, _, _⟩) (v := ?_) rfl (by kernel_rfl) (by kernel_rfl) (by kernel_rfl) (fun _ _ _ h => h) (Or.inl ⟨by rfl, ?_⟩) (by assumption) ?_
              rotate_left
              · intro w hSw
                (try dsimp only at hSw)
                go_simp
                (try with_reducible rfl)
              (try simp only [Act.put, List.setIfInBounds_toArray, List.set_cons_zero, List.set_cons_succ])
              refine wpAnyH_take (i := 8) (oi := ⟨_, _, _, _, _, _⟩) (v := ?_) rfl (by kernel_rfl) (by kernel_rfl) (by kernel_rfl) (fun _ _ _ h => h) (Or.inl ⟨by rfl, ?_⟩) (by assumption) ?_
              rotate_left
              · intro w hSw
                (try dsimp only at hSw)
                go_simp
                (try with_reducible rfl)
              (try simp only [Act.put, List.setIfInBounds_toArray, List.set_cons_zero, List.set_cons_succ])
              refine wpAnyH_take (i := 9) (oi := ⟨_, _, _, _, _, _⟩) (v := ?_) rfl (by kernel_rfl) (by kernel_rfl) (by kernel_rfl) (fun _ _ _ h => h) (Or.inl ⟨by rfl, ?_⟩) (by assumption) ?_
              rotate_left
              · intro w hSw
                (try dsimp only at hSw)
                go_simp
                (try with_reducible rfl)
              (try simp only [Act.put, List.setIfInBounds_toArray, List.set_cons_zero, List.set_cons_succ])
              refine wpAnyH_take (i := 10) (oi := ⟨_, _, _, _, _, _⟩) (v := ?_) rfl (by kernel_rfl) (by kernel_rfl) (by kernel_rfl) (fun _ _ _ h => h) (Or.inl ⟨by rfl, ?_⟩) (by assumption) ?_
              rotate_left
              · intro w hSw
                (try dsimp only at hSw)
                go_simp
                (try with_reducible rfl)
              (try simp only [Act.put, List.setIfInBounds_toArray, List.set_cons_zero, List.set_cons_succ])
              refine wpAnyH_take (i := 11) (oi := ⟨_, _, _, _, _, _⟩) (v := ?_) rfl (by kernel_rfl) (by kernel_rfl) (by kernel_rfl) (fun _ _ _ h => h) (Or.inl ⟨by rfl, ?_⟩) (by assumption) ?_
              rotate_left
              · intro w hSw
                (try dsimp only at hSw)
                go_simp
                (try with_reducible rfl)
              (try simp only [Act.put, List.setIfInBounds_toArray, List.set_cons_zero, List.set_cons_succ])
              refine wpAnyH_take (i := 12) (oi := ⟨_, _, _, _, _, _⟩) (v := ?_) rfl (by kernel_rfl) (by kernel_rfl) (by kernel_rfl) (fun _ _ _ h => h) (Or.inl ⟨by rfl, ?_⟩) (by assumption) ?_
              rotate_left
              · intro w hSw
                (try dsimp only at hSw)
                go_simp
                (try with_reducible rfl)
              (try simp only [Act.put, List.setIfInBounds_toArray, List.set_cons_zero, List.set_cons_succ])
              refine wpAnyH_ready (rs := [13]) (by kernel_rfl) (by simp) ?_
              refine AllReadyH.cons (o := ⟨_, _, _, _, _, _⟩) rfl (fun K hK => ?_) AllReadyH.nil
              go_simp
              (go_at_call 36; refine (crDo_any W H A n c x y u v _ HW.out HX64.out HY64.out HU64.out HV64.out).mono ?_; rw [HD.out]; rintro e wz ⟨rfl, hb⟩; (repeat (first | replace hb := below_undrew hb | replace hb := below_undrewN hb)); replace d0 := cell_keep d0 dl hb; replace d1 := cell_keep d1 dl hb; replace d2 := cell_keep d2 dl hb; replace dl := lt_keep dl hb; replace x0 := cell_keep x0 xl hb; replace y0 := cell_keep y0 xl hb; replace xl := lt_keep xl hb; replace u0 := cell_keep u0 ul hb; replace v0 := cell_keep v0 ul hb; replace ul := lt_keep ul hb; replace RQ := Lib.hid (RQ.out.keep hb); replace HBS := Lib.hid (below_next HBS.out hb); clear hb)
              (try go_wp2_with fail)
              refine hK.out _ _ ?_ (fun hHeld => ?_)
              · (try dsimp only)
                exact ⟨d0, d1, d2, x0, y0, u0, v0⟩
              clear hK K
              (try simp only [Act.put, List.setIfInBounds_toArray, List.set_cons_zero, List.set_cons_succ])
              refine wpAnyH_take (i := 14) (oi := ⟨_, _, _, _, _, _⟩) (v := ?_) rfl (by kernel_rfl) (by kernel_rfl) (by kernel_rfl) (fun _ _ _ h => h) (Or.inl ⟨by rfl, ?_⟩) (by assumption) ?_
              rotate_left
              · intro w hSw
                (try dsimp only at hSw)
                go_simp
                (try with_reducible rfl)
              (try simp only [Act.put, List.setIfInBounds_toArray, List.set_cons_zero, List.set_cons_succ])
              refine wpAnyH_take (i := 15) (oi := ⟨_, _, _, _, _, _⟩) (v := ?_) rfl (by kernel_rfl) (by kernel_rfl) (by kernel_rfl) (fun _ _ _ h => h) (Or.inl ⟨by rfl, ?_⟩) (by assumption) ?_
              rotate_left
              · intro w hSw
                (try dsimp only at hSw)
                go_simp
                (try with_reducible rfl)
              (try simp only [Act.put, List.setIfInBounds_toArray, List.set_cons_zero, List.set_cons_succ])
              refine wpAnyH_take (i := 16) (oi := ⟨_, _, _, _, _, _⟩) (v := ?_) rfl (by kernel_rfl) (by kernel_rfl) (by kernel_rfl) (fun _ _ _ h => h) (Or.inl ⟨by rfl, ?_⟩) (by assumption) ?_
              rotate_left
              · intro w hSw
                (try dsimp only at hSw)
                go_simp
                (try with_reducible rfl)
              (try simp only [Act.put, List.setIfInBounds_toArray, List.set_cons_zero, List.set_cons_succ])
              refine wpAnyH_take (i := 17) (oi := ⟨_, _, _, _, _, _⟩) (v := ?_) rfl (by kernel_rfl) (by kernel_rfl) (by kernel_rfl) (fun _ _ _ h => h) (Or.inl ⟨by rfl, ?_⟩) (by assumption) ?_
              rotate_left
              · intro w hSw
                (try dsimp only at hSw)
                go_simp
                (try with_reducible rfl)
              (try simp only [Act.put, List.setIfInBounds_toArray, List.set_cons_zero, List.set_cons_succ])
              refine wpAnyH_take (i := 18) (oi := ⟨_, _, _, _, _, _⟩) (v := ?_) rfl (by kernel_rfl) (by kernel_rfl) (by kernel_rfl) (fun _ _ _ h => h) (Or.inl ⟨by rfl, ?_⟩) (by assumption) ?_
              rotate_left
              · intro w hSw
                (try dsimp only at hSw)
                go_simp
                (try with_reducible rfl)
              (try simp only [Act.put, List.setIfInBounds_toArray, List.set_cons_zero, List.set_cons_succ])
              refine wpAnyH_ready (rs := [19]) (by kernel_rfl) (by simp) ?_
              refine AllReadyH.cons (o := ⟨_, _, _, _, _, _⟩) rfl (fun K hK => ?_) AllReadyH.nil
              go_simp
              (go_at_call 71; refine (l1Has_any (some ⟨gq, oq, none⟩) 2 cq x [u, v] _ ?_).mono ?_; (first | exact RQ.out | exact RQ.out.drew1 | exact RQ.out.drewN _); rw [HX1.out]; rintro e wz ⟨rfl, hb⟩; (repeat (first | replace hb := below_undrew hb | replace hb := below_undrewN hb)); replace d0 := cell_keep d0 dl hb; replace d1 := cell_keep d1 dl hb; replace d2 := cell_keep d2 dl hb; replace dl := lt_keep dl hb; replace x0 := cell_keep x0 xl hb; replace y0 := cell_keep y0 xl hb; replace xl := lt_keep xl hb; replace u0 := cell_keep u0 ul hb; replace v0 := cell_keep v0 ul hb; replace ul := lt_keep ul hb; replace RQ := Lib.hid (RQ.out.keep hb); replace HBS := Lib.hid (below_next HBS.out hb); clear hb)
              (try go_wp2_with fail)
              refine hK.out _ _ ?_ (fun hHeld => ?_)
              · (try dsimp only)
                exact ⟨d0, d1, d2, x0, y0, u0, v0⟩
              clear hK K
              (try simp only [Act.put, List.setIfInBounds_toArray, List.set_cons_zero, List.set_cons_succ])
              refine wpAnyH_take (i := 20) (oi := ⟨_, _, _, _, _, _⟩) (v := ?_) rfl (by kernel_rfl) (by kernel_rfl) (by kernel_rfl) (fun _ _ _ h => h) (Or.inl ⟨by rfl, ?_⟩) (by assumption) ?_
              rotate_left
              · intro w hSw
                (try dsimp only at hSw)
                go_simp
                (try with_reducible rfl)
              (try simp only [Act.put, List.setIfInBounds_toArray, List.set_cons_zero, List.set_cons_succ])
              refine wpAnyH_take (i := 21) (oi := ⟨_, _, _, _, _, _⟩) (v := ?_) rfl (by kernel_rfl) (by kernel_rfl) (by kernel_rfl) (fun _ _ _ h => h) (Or.inl ⟨by rfl, ?_⟩) (by assumption) ?_
              rotate_left
              · intro w hSw
                (try dsimp only at hSw)
                go_simp
                (try with_reducible rfl)
              (try simp only [Act.put, List.setIfInBounds_toArray, List.set_cons_zero, List.set_cons_succ])
              refine wpAnyH_take (i := 22) (oi := ⟨_, _, _, _, _, _⟩) (v := undef) rfl (by kernel_rfl) (by kernel_rfl) (by kernel_rfl) (fun _ _ _ h => h) (Or.inr ⟨by rfl, rfl⟩) (by assumption) ?_
              (try simp only [Act.put, List.setIfInBounds_toArray, List.set_cons_zero, List.set_cons_succ])
              refine wpAnyH_take (i := 23) (oi := ⟨_, _, _, _, _, _⟩) (v := undef) rfl (by kernel_rfl) (by kernel_rfl) (by kernel_rfl) (fun _ _ _ h => h) (Or.inr ⟨by rfl, rfl⟩) (by assumption) ?_
              (try simp only [Act.put, List.setIfInBounds_toArray, List.set_cons_zero, List.set_cons_succ])
              refine wpAnyH_take (i := 24) (oi := ⟨_, _, _, _, _, _⟩) (v := undef) rfl (by kernel_rfl) (by kernel_rfl) (by kernel_rfl) (fun _ _ _ h => h) (Or.inr ⟨by rfl, rfl⟩) (by assumption) ?_
              (try simp only [Act.put, List.setIfInBounds_toArray, List.set_cons_zero, List.set_cons_succ])
              refine wpAnyH_take (i := 25) (oi := ⟨_, _, _, _, _, _⟩) (v := undef) rfl (by kernel_rfl) (by kernel_rfl) (by kernel_rfl) (fun _ _ _ h => h) (Or.inr ⟨by rfl, rfl⟩) (by assumption) ?_
              (try simp only [Act.put, List.setIfInBounds_toArray, List.set_cons_zero, List.set_cons_succ])
              refine wpAnyH_take (i := 26) (oi := ⟨_, _, _, _, _, _⟩) (v := undef) rfl (by kernel_rfl) (by kernel_rfl) (by kernel_rfl) (fun _ _ _ h => h) (Or.inr ⟨by rfl, rfl⟩) (by assumption) ?_
              (try simp only [Act.put, List.setIfInBounds_toArray, List.set_cons_zero, List.set_cons_succ])
              refine wpAnyH_take (i := 27) (oi := ⟨_, _, _, _, _, _⟩) (v := ?_) rfl (by kernel_rfl) (by kernel_rfl) (by kernel_rfl) (fun _ _ _ h => h) (Or.inl ⟨by rfl, ?_⟩) (by assumption) ?_
              rotate_left
              · intro w hSw
                (try dsimp only at hSw)
                go_simp
                (try with_reducible rfl)
              (try simp only [Act.put, List.setIfInBounds_toArray, List.set_cons_zero, List.set_cons_succ])
              refine wpAnyH_done (by kernel_rfl) ?_ _
              go_wp2
              go_roundw
              case rel => exact ⟨j + 1, by omega, by go_num, by rw [HN.out], by first | exact HBS.out | exact below_drewN HBS.out _ | exact HBS.out.drew⟩
              case measure => simp [intOf]; omega
            | false =>
              have HX1 := Lib.hid hx1
              clear hx1
              cases hx2 : [u, v].contains y with
              | true =>
                have HX2 := Lib.hid hx2
                clear hx2
                have HM := Lib.hid (show meetB W (u, v) (x, y) = true by rw [meet_parts, HD.out, HX1.out, HX2.out]; rfl)
                have HN := Lib.hid (show fitsA (meetB W) (ch.take (j + 1)) (x, y) = false by rw [fits_snoc HQ.out, HM.out]; simp)
                go_wp2_with fail
                refine wp_region_held_drew (S := fun w' => w'.cell? ⟨w.heap.size, 0, none⟩ = some (.int .i64 W) ∧ w'.cell? ⟨w.heap.size, 1, none⟩ = some (.int .i64 H) ∧ w'.cell? ⟨w.heap.size, 2, none⟩ = some (.slice A n c) ∧ w'.cell? ⟨gp, op, none⟩ = some (.int .i64 x) ∧ w'.cell? ⟨gp, op + 1, none⟩ = some (.int .i64 y) ∧ w'.cell? ⟨gq, oq, none⟩ = some (.int .i64 u) ∧ w'.cell? ⟨gq, oq + 1, none⟩ = some (.int .i64 v)) (by kernel_rfl) ?_ (fun hHeld => ?_)
                · (try dsimp only)
                  exact ⟨d0, d1, d2, x0, y0, u0, v0⟩
                refine wpAnyH_take (i := 0) (oi := ⟨_, _, _, _, _, _⟩) (v := ?_) rfl (by kernel_rfl) (by kernel_rfl) (by kernel_rfl) (fun _ _ _ h => h) (Or.inl ⟨by rfl, ?_⟩) (by assumption) ?_
                rotate_left
                · intro w hSw
                  (try dsimp only at hSw)
                  go_simp
                  (try with_reducible rfl)
                (try simp only [Act.put, List.setIfInBounds_toArray, List.set_cons_zero, List.set_cons_succ])
                refine wpAnyH_take (i := 1) (oi := ⟨_, _, _, _, _, _⟩) (v := ?_) rfl (by kernel_rfl) (by kernel_rfl) (by kernel_rfl) (fun _ _ _ h => h) (Or.inl ⟨by rfl, ?_⟩) (by assumption) ?_
                rotate_left
                · intro w hSw
                  (try dsimp only at hSw)
                  go_simp
                  (try with_reducible rfl)
                (try simp only [Act.put, List.setIfInBounds_toArray, List.set_cons_zero, List.set_cons_succ])
                refine wpAnyH_take (i := 2) (oi := ⟨_, _, _, _, _, _⟩) (v := ?_) rfl (by kernel_rfl) (by kernel_rfl) (by kernel_rfl) (fun _ _ _ h => h) (Or.inl ⟨by rfl, ?_⟩) (by assumption) ?_
                rotate_left
                · intro w hSw
                  (try dsimp only at hSw)
                  go_simp
                  (try with_reducible rfl)
                (try simp only [Act.put, List.setIfInBounds_toArray, List.set_cons_zero, List.set_cons_succ])
                refine wpAnyH_take (i := 3) (oi := ⟨_, _, _, _, _, _⟩) (v := ?_) rfl (by kernel_rfl) (by kernel_rfl) (by kernel_rfl) (fun _ _ _ h => h) (Or.inl ⟨by rfl, ?_⟩) (by assumption) ?_
                rotate_left
                · intro w hSw
                  (try dsimp only at hSw)
                  go_simp
                  (try with_reducible rfl)
                (try simp only [Act.put, List.setIfInBounds_toArray, List.set_cons_zero, List.set_cons_succ])
                refine wpAnyH_take (i := 4) (oi := ⟨_, _, _, _, _, _⟩) (v := ?_) rfl (by kernel_rfl) (by kernel_rfl) (by kernel_rfl) (fun _ _ _ h => h) (Or.inl ⟨by rfl, ?_⟩) (by assumption) ?_
                rotate_left
                · intro w hSw
                  (try dsimp only at hSw)
                  go_simp
                  (try with_reducible rfl)
                (try simp only [Act.put, List.setIfInBounds_toArray, List.set_cons_zero, List.set_cons_succ])
                refine wpAnyH_take (i := 5) (oi := ⟨_, _, _, _, _, _⟩) (v := ?_) rfl (by kernel_rfl) (by kernel_rfl) (by kernel_rfl) (fun _ _ _ h => h) (Or.inl ⟨by rfl, ?_⟩) (by assumption) ?_
                rotate_left
                · intro w hSw
                  (try dsimp only at hSw)
                  go_simp
                  (try with_reducible rfl)
                (try simp only [Act.put, List.setIfInBounds_toArray, List.set_cons_zero, List.set_cons_succ])
                refine wpAnyH_take (i := 6) (oi := ⟨_, _, _, _, _, _⟩) (v := ?_) rfl (by kernel_rfl) (by kernel_rfl) (by kernel_rfl) (fun _ _ _ h => h) (Or.inl ⟨by rfl, ?_⟩) (by assumption) ?_
                rotate_left
                · intro w hSw
                  (try dsimp only at hSw)
                  go_simp
                  (try with_reducible rfl)
                (try simp only [Act.put, List.setIfInBounds_toArray, List.set_cons_zero, List.set_cons_succ])
                refine wpAnyH_take (i := 7) (oi := ⟨_, _, _, _, _, _⟩) (v := ?_) rfl (by kernel_rfl) (by kernel_rfl) (by kernel_rfl) (fun _ _ _ h => h) (Or.inl ⟨by rfl, ?_⟩) (by assumption) ?_
                rotate_left
                · intro w hSw
                  (try dsimp only at hSw)
                  go_simp
                  (try with_reducible rfl)
                (try simp only [Act.put, List.setIfInBounds_toArray, List.set_cons_zero, List.set_cons_succ])
                refine wpAnyH_take (i := 8) (oi := ⟨_, _, _, _, _, _⟩) (v := ?_) rfl (by kernel_rfl) (by kernel_rfl) (by kernel_rfl) (fun _ _ _ h => h) (Or.inl ⟨by rfl, ?_⟩) (by assumption) ?_
                rotate_left
                · intro w hSw
                  (try dsimp only at hSw)
                  go_simp
                  (try with_reducible rfl)
                (try simp only [Act.put, List.setIfInBounds_toArray, List.set_cons_zero, List.set_cons_succ])
                refine wpAnyH_take (i := 9) (oi := ⟨_, _, _, _, _, _⟩) (v := ?_) rfl (by kernel_rfl) (by kernel_rfl) (by kernel_rfl) (fun _ _ _ h => h) (Or.inl ⟨by rfl, ?_⟩) (by assumption) ?_
                rotate_left
                · intro w hSw
                  (try dsimp only at hSw)
                  go_simp
                  (try with_reducible rfl)
                (try simp only [Act.put, List.setIfInBounds_toArray, List.set_cons_zero, List.set_cons_succ])
                refine wpAnyH_take (i := 10) (oi := ⟨_, _, _, _, _, _⟩) (v := ?_) rfl (by kernel_rfl) (by kernel_rfl) (by kernel_rfl) (fun _ _ _ h => h) (Or.inl ⟨by rfl, ?_⟩) (by assumption) ?_
                rotate_left
                · intro w hSw
                  (try dsimp only at hSw)
                  go_simp
                  (try with_reducible rfl)
                (try simp only [Act.put, List.setIfInBounds_toArray, List.set_cons_zero, List.set_cons_succ])
                refine wpAnyH_take (i := 11) (oi := ⟨_, _, _, _, _, _⟩) (v := ?_) rfl (by kernel_rfl) (by kernel_rfl) (by kernel_rfl) (fun _ _ _ h => h) (Or.inl ⟨by rfl, ?_⟩) (by assumption) ?_
                rotate_left
                · intro w hSw
                  (try dsimp only at hSw)
                  go_simp
                  (try with_reducible rfl)
                (try simp only [Act.put, List.setIfInBounds_toArray, List.set_cons_zero, List.set_cons_succ])
                refine wpAnyH_take (i := 12) (oi := ⟨_, _, _, _, _, _⟩) (v := ?_) rfl (by kernel_rfl) (by kernel_rfl) (by kernel_rfl) (fun _ _ _ h => h) (Or.inl ⟨by rfl, ?_⟩) (by assumption) ?_
                rotate_left
                · intro w hSw
                  (try dsimp only at hSw)
                  go_simp
                  (try with_reducible rfl)
                (try simp only [Act.put, List.setIfInBounds_toArray, List.set_cons_zero, List.set_cons_succ])
                refine wpAnyH_ready (rs := [13]) (by kernel_rfl) (by simp) ?_
                refine AllReadyH.cons (o := ⟨_, _, _, _, _, _⟩) rfl (fun K hK => ?_) AllReadyH.nil
                go_simp
                (go_at_call 36; refine (crDo_any W H A n c x y u v _ HW.out HX64.out HY64.out HU64.out HV64.out).mono ?_; rw [HD.out]; rintro e wz ⟨rfl, hb⟩; (repeat (first | replace hb := below_undrew hb | replace hb := below_undrewN hb)); replace d0 := cell_keep d0 dl hb; replace d1 := cell_keep d1 dl hb; replace d2 := cell_keep d2 dl hb; replace dl := lt_keep dl hb; replace x0 := cell_keep x0 xl hb; replace y0 := cell_keep y0 xl hb; replace xl := lt_keep xl hb; replace u0 := cell_keep u0 ul hb; replace v0 := cell_keep v0 ul hb; replace ul := lt_keep ul hb; replace RQ := Lib.hid (RQ.out.keep hb); replace HBS := Lib.hid (below_next HBS.out hb); clear hb)
                (try go_wp2_with fail)
                refine hK.out _ _ ?_ (fun hHeld => ?_)
                · (try dsimp only)
                  exact ⟨d0, d1, d2, x0, y0, u0, v0⟩
                clear hK K
                (try simp only [Act.put, List.setIfInBounds_toArray, List.set_cons_zero, List.set_cons_succ])
                refine wpAnyH_take (i := 14) (oi := ⟨_, _, _, _, _, _⟩) (v := ?_) rfl (by kernel_rfl) (by kernel_rfl) (by kernel_rfl) (fun _ _ _ h => h) (Or.inl ⟨by rfl, ?_⟩) (by assumption) ?_
                rotate_left
                · intro w hSw
                  (try dsimp only at hSw)
                  go_simp
                  (try with_reducible rfl)
                (try simp only [Act.put, List.setIfInBounds_toArray, List.set_cons_zero, List.set_cons_succ])
                refine wpAnyH_take (i := 15) (oi := ⟨_, _, _, _, _, _⟩) (v := ?_) rfl (by kernel_rfl) (by kernel_rfl) (by kernel_rfl) (fun _ _ _ h => h) (Or.inl ⟨by rfl, ?_⟩) (by assumption) ?_
                rotate_left
                · intro w hSw
                  (try dsimp only at hSw)
                  go_simp
                  (try with_reducible rfl)
                (try simp only [Act.put, List.setIfInBounds_toArray, List.set_cons_zero, List.set_cons_succ])
                refine wpAnyH_take (i := 16) (oi := ⟨_, _, _, _, _, _⟩) (v := ?_) rfl (by kernel_rfl) (by kernel_rfl) (by kernel_rfl) (fun _ _ _ h => h) (Or.inl ⟨by rfl, ?_⟩) (by assumption) ?_
                rotate_left
                · intro w hSw
                  (try dsimp only at hSw)
                  go_simp
                  (try with_reducible rfl)
                (try simp only [Act.put, List.setIfInBounds_toArray, List.set_cons_zero, List.set_cons_succ])
                refine wpAnyH_take (i := 17) (oi := ⟨_, _, _, _, _, _⟩) (v := ?_) rfl (by kernel_rfl) (by kernel_rfl) (by kernel_rfl) (fun _ _ _ h => h) (Or.inl ⟨by rfl, ?_⟩) (by assumption) ?_
                rotate_left
                · intro w hSw
                  (try dsimp only at hSw)
                  go_simp
                  (try with_reducible rfl)
                (try simp only [Act.put, List.setIfInBounds_toArray, List.set_cons_zero, List.set_cons_succ])
                refine wpAnyH_take (i := 18) (oi := ⟨_, _, _, _, _, _⟩) (v := ?_) rfl (by kernel_rfl) (by kernel_rfl) (by kernel_rfl) (fun _ _ _ h => h) (Or.inl ⟨by rfl, ?_⟩) (by assumption) ?_
                rotate_left
                · intro w hSw
                  (try dsimp only at hSw)
                  go_simp
                  (try with_reducible rfl)
                (try simp only [Act.put, List.setIfInBounds_toArray, List.set_cons_zero, List.set_cons_succ])
                refine wpAnyH_ready (rs := [19]) (by kernel_rfl) (by simp) ?_
                refine AllReadyH.cons (o := ⟨_, _, _, _, _, _⟩) rfl (fun K hK => ?_) AllReadyH.nil
                go_simp
                (go_at_call 71; refine (l1Has_any (some ⟨gq, oq, none⟩) 2 cq x [u, v] _ ?_).mono ?_; (first | exact RQ.out | exact RQ.out.drew1 | exact RQ.out.drewN _); rw [HX1.out]; rintro e wz ⟨rfl, hb⟩; (repeat (first | replace hb := below_undrew hb | replace hb := below_undrewN hb)); replace d0 := cell_keep d0 dl hb; replace d1 := cell_keep d1 dl hb; replace d2 := cell_keep d2 dl hb; replace dl := lt_keep dl hb; replace x0 := cell_keep x0 xl hb; replace y0 := cell_keep y0 xl hb; replace xl := lt_keep xl hb; replace u0 := cell_keep u0 ul hb; replace v0 := cell_keep v0 ul hb; replace ul := lt_keep ul hb; replace RQ := Lib.hid (RQ.out.keep hb); replace HBS := Lib.hid (below_next HBS.out hb); clear hb)
                (try go_wp2_with fail)
                refine hK.out _ _ ?_ (fun hHeld => ?_)
                · (try dsimp only)
                  exact ⟨d0, d1, d2, x0, y0, u0, v0⟩
                clear hK K
                (try simp only [Act.put, List.setIfInBounds_toArray, List.set_cons_zero, List.set_cons_succ])
                refine wpAnyH_take (i := 20) (oi := ⟨_, _, _, _, _, _⟩) (v := ?_) rfl (by kernel_rfl) (by kernel_rfl) (by kernel_rfl) (fun _ _ _ h => h) (Or.inl ⟨by rfl, ?_⟩) (by assumption) ?_
                rotate_left
                · intro w hSw
                  (try dsimp only at hSw)
                  go_simp
                  (try with_reducible rfl)
                (try simp only [Act.put, List.setIfInBounds_toArray, List.set_cons_zero, List.set_cons_succ])
                refine wpAnyH_take (i := 21) (oi := ⟨_, _, _, _, _, _⟩) (v := ?_) rfl (by kernel_rfl) (by kernel_rfl) (by kernel_rfl) (fun _ _ _ h => h) (Or.inl ⟨by rfl, ?_⟩) (by assumption) ?_
                rotate_left
                · intro w hSw
                  (try dsimp only at hSw)
                  go_simp
                  (try with_reducible rfl)
                (try simp only [Act.put, List.setIfInBounds_toArray, List.set_cons_zero, List.set_cons_succ])
                refine wpAnyH_take (i := 22) (oi := ⟨_, _, _, _, _, _⟩) (v := ?_) rfl (by kernel_rfl) (by kernel_rfl) (by kernel_rfl) (fun _ _ _ h => h) (Or.inl ⟨by rfl, ?_⟩) (by assumption) ?_
                rotate_left
                · intro w hSw
                  (try dsimp only at hSw)
                  go_simp
                  (try with_reducible rfl)
                (try simp only [Act.put, List.setIfInBounds_toArray, List.set_cons_zero, List.set_cons_succ])
                refine wpAnyH_take (i := 23) (oi := ⟨_, _, _, _, _, _⟩) (v := ?_) rfl (by kernel_rfl) (by kernel_rfl) (by kernel_rfl) (fun _ _ _ h => h) (Or.inl ⟨by rfl, ?_⟩) (by assumption) ?_
                rotate_left
                · intro w hSw
                  (try dsimp only at hSw)
                  go_simp
                  (try with_reducible rfl)
                (try simp only [Act.put, List.setIfInBounds_toArray, List.set_cons_zero, List.set_cons_succ])
                refine wpAnyH_take (i := 24) (oi := ⟨_, _, _, _, _, _⟩) (v := ?_) rfl (by kernel_rfl) (by kernel_rfl) (by kernel_rfl) (fun _ _ _ h => h) (Or.inl ⟨by rfl, ?_⟩) (by assumption) ?_
                rotate_left
                · intro w hSw
                  (try dsimp only at hSw)
                  go_simp
                  (try with_reducible rfl)
                (try simp only [Act.put, List.setIfInBounds_toArray, List.set_cons_zero, List.set_cons_succ])
                refine wpAnyH_take (i := 25) (oi := ⟨_, _, _, _, _, _⟩) (v := ?_) rfl (by kernel_rfl) (by kernel_rfl) (by kernel_rfl) (fun _ _ _ h => h) (Or.inl ⟨by rfl, ?_⟩) (by assumption) ?_
                rotate_left
                · intro w hSw
                  (try dsimp only at hSw)
                  go_simp
                  (try with_reducible rfl)
                (try simp only [Act.put, List.setIfInBounds_toArray, List.set_cons_zero, List.set_cons_succ])
                refine wpAnyH_ready (rs := [26]) (by kernel_rfl) (by simp) ?_
                refine AllReadyH.cons (o := ⟨_, _, _, _, _, _⟩) rfl (fun K hK => ?_) AllReadyH.nil
                go_simp
                (go_at_call 71; refine (l1Has_any (some ⟨gq, oq, none⟩) 2 cq y [u, v] _ ?_).mono ?_; (first | exact RQ.out | exact RQ.out.drew1 | exact RQ.out.drewN _); rw [HX2.out]; rintro e wz ⟨rfl, hb⟩; (repeat (first | replace hb := below_undrew hb | replace hb := below_undrewN hb)); replace d0 := cell_keep d0 dl hb; replace d1 := cell_keep d1 dl hb; replace d2 := cell_keep d2 dl hb; replace dl := lt_keep dl hb; replace x0 := cell_keep x0 xl hb; replace y0 := cell_keep y0 xl hb; replace xl := lt_keep xl hb; replace u0 := cell_keep u0 ul hb; replace v0 := cell_keep v0 ul hb; replace ul := lt_keep ul hb; replace RQ := Lib.hid (RQ.out.keep hb); replace HBS := Lib.hid (below_next HBS.out hb); clear hb)
                (try go_wp2_with fail)
                refine hK.out _ _ ?_ (fun hHeld => ?_)
                · (try dsimp only)
                  exact ⟨d0, d1, d2, x0, y0, u0, v0⟩
                clear hK K
                (try simp only [Act.put, List.setIfInBounds_toArray, List.set_cons_zero, List.set_cons_succ])
                refine wpAnyH_take (i := 27) (oi := ⟨_, _, _, _, _, _⟩) (v := ?_) rfl (by kernel_rfl) (by kernel_rfl) (by kernel_rfl) (fun _ _ _ h => h) (Or.inl ⟨by rfl, ?_⟩) (by assumption) ?_
                rotate_left
                · intro w hSw
                  (try dsimp only at hSw)
                  go_simp
                  (try with_reducible rfl)
                (try simp only [Act.put, List.setIfInBounds_toArray, List.set_cons_zero, List.set_cons_succ])
                refine wpAnyH_done (by kernel_rfl) ?_ _
                go_wp2
                go_roundw
                case rel => exact ⟨j + 1, by omega, by go_num, by rw [HN.out], by first | exact HBS.out | exact below_drewN HBS.out _ | exact HBS.out.drew⟩
                case measure => simp [intOf]; omega
              | false =>
                have HX2 := Lib.hid hx2
                clear hx2
                have HM := Lib.hid (show meetB W (u, v) (x, y) = false by rw [meet_parts, HD.out, HX1.out, HX2.out]; rfl)
                have HN := Lib.hid (show fitsA (meetB W) (ch.take (j + 1)) (x, y) = fitsA (meetB W) (ch.take j) (x, y) by rw [fits_snoc HQ.out, HM.out]; simp)
                go_wp2_with fail
                refine wp_region_held_drew (S := fun w' => w'.cell? ⟨w.heap.size, 0, none⟩ = some (.int .i64 W) ∧ w'.cell? ⟨w.heap.size, 1, none⟩ = some (.int .i64 H) ∧ w'.cell? ⟨w.heap.size, 2, none⟩ = some (.slice A n c) ∧ w'.cell? ⟨gp, op, none⟩ = some (.int .i64 x) ∧ w'.cell? ⟨gp, op + 1, none⟩ = some (.int .i64 y) ∧ w'.cell? ⟨gq, oq, none⟩ = some (.int .i64 u) ∧ w'.cell? ⟨gq, oq + 1, none⟩ = some (.int .i64 v)) (by kernel_rfl) ?_ (fun hHeld => ?_)
                · (try dsimp only)
                  exact ⟨d0, d1, d2, x0, y0, u0, v0⟩
                refine wpAnyH_take (i := 0) (oi := ⟨_, _, _, _, _, _⟩) (v := ?_) rfl (by kernel_rfl) (by kernel_rfl) (by kernel_rfl) (fun _ _ _ h => h) (Or.inl ⟨by rfl, ?_⟩) (by assumption) ?_
                rotate_left
                · intro w hSw
                  (try dsimp only at hSw)
                  go_simp
                  (try with_reducible rfl)
                (try simp only [Act.put, List.setIfInBounds_toArray, List.set_cons_zero, List.set_cons_succ])
                refine wpAnyH_take (i := 1) (oi := ⟨_, _, _, _, _, _⟩) (v := ?_) rfl (by kernel_rfl) (by kernel_rfl) (by kernel_rfl) (fun _ _ _ h => h) (Or.inl ⟨by rfl, ?_⟩) (by assumption) ?_
                rotate_left
                · intro w hSw
                  (try dsimp only at hSw)
                  go_simp
                  (try with_reducible rfl)
                (try simp only [Act.put, List.setIfInBounds_toArray, List.set_cons_zero, List.set_cons_succ])
                refine wpAnyH_take (i := 2) (oi := ⟨_, _, _, _, _, _⟩) (v := ?_) rfl (by kernel_rfl) (by kernel_rfl) (by kernel_rfl) (fun _ _ _ h => h) (Or.inl ⟨by rfl, ?_⟩) (by assumption) ?_
                rotate_left
                · intro w hSw
                  (try dsimp only at hSw)
                  go_simp
                  (try with_reducible rfl)
                (try simp only [Act.put, List.setIfInBounds_toArray, List.set_cons_zero, List.set_cons_succ])
                refine wpAnyH_take (i := 3) (oi := ⟨_, _, _, _, _, _⟩) (v := ?_) rfl (by kernel_rfl) (by kernel_rfl) (by kernel_rfl) (fun _ _ _ h => h) (Or.inl ⟨by rfl, ?_⟩) (by assumption) ?_
                rotate_left
                · intro w hSw
                  (try dsimp only at hSw)
                  go_simp
                  (try with_reducible rfl)
                (try simp only [Act.put, List.setIfInBounds_toArray, List.set_cons_zero, List.set_cons_succ])
                refine wpAnyH_take (i := 4) (oi := ⟨_, _, _, _, _, _⟩) (v := ?_) rfl (by kernel_rfl) (by kernel_rfl) (by kernel_rfl) (fun _ _ _ h => h) (Or.inl ⟨by rfl, ?_⟩) (by assumption) ?_
                rotate_left
                · intro w hSw
                  (try dsimp only at hSw)
                  go_simp
                  (try with_reducible rfl)
                (try simp only [Act.put, List.setIfInBounds_toArray, List.set_cons_zero, List.set_cons_succ])
                refine wpAnyH_take (i := 5) (oi := ⟨_, _, _, _, _, _⟩) (v := ?_) rfl (by kernel_rfl) (by kernel_rfl) (by kernel_rfl) (fun _ _ _ h => h) (Or.inl ⟨by rfl, ?_⟩) (by assumption) ?_
                rotate_left
                · intro w hSw
                  (try dsimp only at hSw)
                  go_simp
                  (try with_reducible rfl)
                (try simp only [Act.put, List.setIfInBounds_toArray, List.set_cons_zero, List.set_cons_succ])
                refine wpAnyH_take (i := 6) (oi := ⟨_, _, _, _, _, _⟩) (v := ?_) rfl (by kernel_rfl) (by kernel_rfl) (by kernel_rfl) (fun _ _ _ h => h) (Or.inl ⟨by rfl, ?_⟩) (by assumption) ?_
                rotate_left
                · intro w hSw
                  (try dsimp only at hSw)
                  go_simp
                  (try with_reducible rfl)
                (try simp only [Act.put, List.setIfInBounds_toArray, List.set_cons_zero, List.set_cons_succ])
                refine wpAnyH_take (i := 7) (oi := ⟨_, _, _, _, _, _⟩) (v := ?_) rfl (by kernel_rfl) (by kernel_rfl) (by kernel_rfl) (fun _ _ _ h => h) (Or.inl ⟨by rfl, ?_⟩) (by assumption) ?_
                rotate_left
                · intro w hSw
                  (try dsimp only at hSw)
                  go_simp
                  (try with_reducible rfl)
                (try simp only [Act.put, List.setIfInBounds_toArray, List.set_cons_zero, List.set_cons_succ])
                refine wpAnyH_take (i := 8) (oi := ⟨_, _, _, _, _, _⟩) (v := ?_) rfl (by kernel_rfl) (by kernel_rfl) (by kernel_rfl) (fun _ _ _ h => h) (Or.inl ⟨by rfl, ?_⟩) (by assumption) ?_
                rotate_left
                · intro w hSw
                  (try dsimp only at hSw)
                  go_simp
                  (try with_reducible rfl)
                (try simp only [Act.put, List.setIfInBounds_toArray, List.set_cons_zero, List.set_cons_succ])
                refine wpAnyH_take (i := 9) (oi := ⟨_, _, _, _, _, _⟩) (v := ?_) rfl (by kernel_rfl) (by kernel_rfl) (by kernel_rfl) (fun _ _ _ h => h) (Or.inl ⟨by rfl, ?_⟩) (by assumption) ?_
                rotate_left
                · intro w hSw
                  (try dsimp only at hSw)
                  go_simp
                  (try with_reducible rfl)
                (try simp only [Act.put, List.setIfInBounds_toArray, List.set_cons_zero, List.set_cons_succ])
                refine wpAnyH_take (i := 10) (oi := ⟨_, _, _, _, _, _⟩) (v := ?_) rfl (by kernel_rfl) (by kernel_rfl) (by kernel_rfl) (fun _ _ _ h => h) (Or.inl ⟨by rfl, ?_⟩) (by assumption) ?_
                rotate_left
                · intro w hSw
                  (try dsimp only at hSw)
                  go_simp
                  (try with_reducible rfl)
                (try simp only [Act.put, List.setIfInBounds_toArray, List.set_cons_zero, List.set_cons_succ])
                refine wpAnyH_take (i := 11) (oi := ⟨_, _, _, _, _, _⟩) (v := ?_) rfl (by kernel_rfl) (by kernel_rfl) (by kernel_rfl) (fun _ _ _ h => h) (Or.inl ⟨by rfl, ?_⟩) (by assumption) ?_
                rotate_left
                · intro w hSw
                  (try dsimp only at hSw)
                  go_simp
                  (try with_reducible rfl)
                (try simp only [Act.put, List.setIfInBounds_toArray, List.set_cons_zero, List.set_cons_succ])
                refine wpAnyH_take (i := 12) (oi := ⟨_, _, _, _, _, _⟩) (v := ?_) rfl (by kernel_rfl) (by kernel_rfl) (by kernel_rfl) (fun _ _ _ h => h) (Or.inl ⟨by rfl, ?_⟩) (by assumption) ?_
                rotate_left
                · intro w hSw
                  (try dsimp only at hSw)
                  go_simp
                  (try with_reducible rfl)
                (try simp only [Act.put, List.setIfInBounds_toArray, List.set_cons_zero, List.set_cons_succ])
                refine wpAnyH_ready (rs := [13]) (by kernel_rfl) (by simp) ?_
                refine AllReadyH.cons (o := ⟨_, _, _, _, _, _⟩) rfl (fun K hK => ?_) AllReadyH.nil
                go_simp
                (go_at_call 36; refine (crDo_any W H A n c x y u v _ HW.out HX64.out HY64.out HU64.out HV64.out).mono ?_; rw [HD.out]; rintro e wz ⟨rfl, hb⟩; (repeat (first | replace hb := below_undrew hb | replace hb := below_undrewN hb)); replace d0 := cell_keep d0 dl hb; replace d1 := cell_keep d1 dl hb; replace d2 := cell_keep d2 dl hb; replace dl := lt_keep dl hb; replace x0 := cell_keep x0 xl hb; replace y0 := cell_keep y0 xl hb; replace xl := lt_keep xl hb; replace u0 := cell_keep u0 ul hb; replace v0 := cell_keep v0 ul hb; replace ul := lt_keep ul hb; replace RQ := Lib.hid (RQ.out.keep hb); replace HBS := Lib.hid (below_next HBS.out hb); clear hb)
                (try go_wp2_with fail)
                refine hK.out _ _ ?_ (fun hHeld => ?_)
                · (try dsimp only)
                  exact ⟨d0, d1, d2, x0, y0, u0, v0⟩
                clear hK K
                (try simp only [Act.put, List.setIfInBounds_toArray, List.set_cons_zero, List.set_cons_succ])
                refine wpAnyH_take (i := 14) (oi := ⟨_, _, _, _, _, _⟩) (v := ?_) rfl (by kernel_rfl) (by kernel_rfl) (by kernel_rfl) (fun _ _ _ h => h) (Or.inl ⟨by rfl, ?_⟩) (by assumption) ?_
                rotate_left
                · intro w hSw
                  (try dsimp only at hSw)
                  go_simp
                  (try with_reducible rfl)
                (try simp only [Act.put, List.setIfInBounds_toArray, List.set_cons_zero, List.set_cons_succ])
                refine wpAnyH_take (i := 15) (oi := ⟨_, _, _, _, _, _⟩) (v := ?_) rfl (by kernel_rfl) (by kernel_rfl) (by kernel_rfl) (fun _ _ _ h => h) (Or.inl ⟨by rfl, ?_⟩) (by assumption) ?_
                rotate_left
                · intro w hSw
                  (try dsimp only at hSw)
                  go_simp
                  (try with_reducible rfl)
                (try simp only [Act.put, List.setIfInBounds_toArray, List.set_cons_zero, List.set_cons_succ])
                refine wpAnyH_take (i := 16) (oi := ⟨_, _, _, _, _, _⟩) (v := ?_) rfl (by kernel_rfl) (by kernel_rfl) (by kernel_rfl) (fun _ _ _ h => h) (Or.inl ⟨by rfl, ?_⟩) (by assumption) ?_
                rotate_left
                · intro w hSw
                  (try dsimp only at hSw)
                  go_simp
                  (try with_reducible rfl)
                (try simp only [Act.put, List.setIfInBounds_toArray, List.set_cons_zero, List.set_cons_succ])
                refine wpAnyH_take (i := 17) (oi := ⟨_, _, _, _, _, _⟩) (v := ?_) rfl (by kernel_rfl) (by kernel_rfl) (by kernel_rfl) (fun _ _ _ h => h) (Or.inl ⟨by rfl, ?_⟩) (by assumption) ?_
                rotate_left
                · intro w hSw
                  (try dsimp only at hSw)
                  go_simp
                  (try with_reducible rfl)
                (try simp only [Act.put, List.setIfInBounds_toArray, List.set_cons_zero, List.set_cons_succ])
                refine wpAnyH_take (i := 18) (oi := ⟨_, _, _, _, _, _⟩) (v := ?_) rfl (by kernel_rfl) (by kernel_rfl) (by kernel_rfl) (fun _ _ _ h => h) (Or.inl ⟨by rfl, ?_⟩) (by assumption) ?_
                rotate_left
                · intro w hSw
                  (try dsimp only at hSw)
                  go_simp
                  (try with_reducible rfl)
                (try simp only [Act.put, List.setIfInBounds_toArray, List.set_cons_zero, List.set_cons_succ])
                refine wpAnyH_ready (rs := [19]) (by kernel_rfl) (by simp) ?_
                refine AllReadyH.cons (o := ⟨_, _, _, _, _, _⟩) rfl (fun K hK => ?_) AllReadyH.nil
                go_simp
                (go_at_call 71; refine (l1Has_any (some ⟨gq, oq, none⟩) 2 cq x [u, v] _ ?_).mono ?_; (first | exact RQ.out | exact RQ.out.drew1 | exact RQ.out.drewN _); rw [HX1.out]; rintro e wz ⟨rfl, hb⟩; (repeat (first | replace hb := below_undrew hb | replace hb := below_undrewN hb)); replace d0 := cell_keep d0 dl hb; replace d1 := cell_keep d1 dl hb; replace d2 := cell_keep d2 dl hb; replace dl := lt_keep dl hb; replace x0 := cell_keep x0 xl hb; replace y0 := cell_keep y0 xl hb; replace xl := lt_keep xl hb; replace u0 := cell_keep u0 ul hb; replace v0 := cell_keep v0 ul hb; replace ul := lt_keep ul hb; replace RQ := Lib.hid (RQ.out.keep hb); replace HBS := Lib.hid (below_next HBS.out hb); clear hb)
                (try go_wp2_with fail)
                refine hK.out _ _ ?_ (fun hHeld => ?_)
                · (try dsimp only)
                  exact ⟨d0, d1, d2, x0, y0, u0, v0⟩
                clear hK K
                (try simp only [Act.put, List.setIfInBounds_toArray, List.set_cons_zero, List.set_cons_succ])
                refine wpAnyH_take (i := 20) (oi := ⟨_, _, _, _, _, _⟩) (v := ?_) rfl (by kernel_rfl) (by kernel_rfl) (by kernel_rfl) (fun _ _ _ h => h) (Or.inl ⟨by rfl, ?_⟩) (by assumption) ?_
                rotate_left
                · intro w hSw
                  (try dsimp only at hSw)
                  go_simp
                  (try with_reducible rfl)
                (try simp only [Act.put, List.setIfInBounds_toArray, List.set_cons_zero, List.set_cons_succ])
                refine wpAnyH_take (i := 21) (oi := ⟨_, _, _, _, _, _⟩) (v := ?_) rfl (by kernel_rfl) (by kernel_rfl) (by kernel_rfl) (fun _ _ _ h => h) (Or.inl ⟨by rfl, ?_⟩) (by assumption) ?_
                rotate_left
                · intro w hSw
                  (try dsimp only at hSw)
                  go_simp
                  (try with_reducible rfl)
                (try simp only [Act.put, List.setIfInBounds_toArray, List.set_cons_zero, List.set_cons_succ])
                refine wpAnyH_take (i := 22) (oi := ⟨_, _, _, _, _, _⟩) (v := ?_) rfl (by kernel_rfl) (by kernel_rfl) (by kernel_rfl) (fun _ _ _ h => h) (Or.inl ⟨by rfl, ?_⟩) (by assumption) ?_
                rotate_left
                · intro w hSw
                  (try dsimp only at hSw)
                  go_simp
                  (try with_reducible rfl)
                (try simp only [Act.put, List.setIfInBounds_toArray, List.set_cons_zero, List.set_cons_succ])
                refine wpAnyH_take (i := 23) (oi := ⟨_, _, _, _, _, _⟩) (v := ?_) rfl (by kernel_rfl) (by kernel_rfl) (by kernel_rfl) (fun _ _ _ h => h) (Or.inl ⟨by rfl, ?_⟩) (by assumption) ?_
                rotate_left
                · intro w hSw
                  (try dsimp only at hSw)
                  go_simp
                  (try with_reducible rfl)
                (try simp only [Act.put, List.setIfInBounds_toArray, List.set_cons_zero, List.set_cons_succ])
                refine wpAnyH_take (i := 24) (oi := ⟨_, _, _, _, _, _⟩) (v := ?_) rfl (by kernel_rfl) (by kernel_rfl) (by kernel_rfl) (fun _ _ _ h => h) (Or.inl ⟨by rfl, ?_⟩) (by assumption) ?_
                rotate_left
                · intro w hSw
                  (try dsimp only at hSw)
                  go_simp
                  (try with_reducible rfl)
                (try simp only [Act.put, List.setIfInBounds_toArray, List.set_cons_zero, List.set_cons_succ])
                refine wpAnyH_take (i := 25) (oi := ⟨_, _, _, _, _, _⟩) (v := ?_) rfl (by kernel_rfl) (by kernel_rfl) (by kernel_rfl) (fun _ _ _ h => h) (Or.inl ⟨by rfl, ?_⟩) (by assumption) ?_
                rotate_left
                · intro w hSw
                  (try dsimp only at hSw)
                  go_simp
                  (try with_reducible rfl)
                (try simp only [Act.put, List.setIfInBounds_toArray, List.set_cons_zero, List.set_cons_succ])
                refine wpAnyH_ready (rs := [26]) (by kernel_rfl) (by simp) ?_
                refine AllReadyH.cons (o := ⟨_, _, _, _, _, _⟩) rfl (fun K hK => ?_) AllReadyH.nil
                go_simp
                (go_at_call 71; refine (l1Has_any (some ⟨gq, oq, none⟩) 2 cq y [u, v] _ ?_).mono ?_; (first | exact RQ.out | exact RQ.out.drew1 | exact RQ.out.drewN _); rw [HX2.out]; rintro e wz ⟨rfl, hb⟩; (repeat (first | replace hb := below_undrew hb | replace hb := below_undrewN hb)); replace d0 := cell_keep d0 dl hb; replace d1 := cell_keep d1 dl hb; replace d2 := cell_keep d2 dl hb; replace dl := lt_keep dl hb; replace x0 := cell_keep x0 xl hb; replace y0 := cell_keep y0 xl hb; replace xl := lt_keep xl hb; replace u0 := cell_keep u0 ul hb; replace v0 := cell_keep v0 ul hb; replace ul := lt_keep ul hb; replace RQ := Lib.hid (RQ.out.keep hb); replace HBS := Lib.hid (below_next HBS.out hb); clear hb)
                (try go_wp2_with fail)
                refine hK.out _ _ ?_ (fun hHeld => ?_)
                · (try dsimp only)
                  exact ⟨d0, d1, d2, x0, y0, u0, v0⟩
                clear hK K
                (try simp only [Act.put, List.setIfInBounds_toArray, List.set_cons_zero, List.set_cons_succ])
                refine wpAnyH_take (i := 27) (oi := ⟨_, _, _, _, _, _⟩) (v := ?_) rfl (by kernel_rfl) (by kernel_rfl) (by kernel_rfl) (fun _ _ _ h => h) (Or.inl ⟨by rfl, ?_⟩) (by assumption) ?_
                rotate_left
                · intro w hSw
                  (try dsimp only at hSw)
                  go_simp
                  (try with_reducible rfl)
                (try simp only [Act.put, List.setIfInBounds_toArray, List.set_cons_zero, List.set_cons_succ])
                refine wpAnyH_done (by kernel_rfl) ?_ _
                go_wp2
                go_roundw
                case rel => exact ⟨j + 1, by omega, by go_num, by rw [HN.out], by first | exact HBS.out | exact below_drewN HBS.out _ | exact HBS.out.drew⟩
                case measure => simp [intOf]; omega
        · have HJ := Lib.hid (show fitsA (meetB W) (ch.take j) (x, y) = fitsA (meetB W) ch (x, y) by rw [List.take_of_length_le (by rw [HCL.out]; omega)])
          have jn : ¬ (j : Int) < (n2 : Int) := by omega
          have hw1 : IntKind.i64.wrap ((k : Int) + 1) = (k : Int) + 1 := IntWalk.i64_in _ (by omega)
          have HST := Lib.hid (apA_step (W := W) (ch := ch) HZ.out)
          have HREC := Lib.hid (show ∀ (A2 : Option Addr) (n2 c2 : Nat) (us : List SlV) (ch : List (Int × Int)) (w' : World), n2 ≤ k + 1 → RdV w' (some ⟨bl, ol, none⟩) n1 vs zs → RdV w' A2 n2 us ch → (∀ z ∈ ch, (0 ≤ z.1 ∧ z.1 ≤ 64) ∧ (0 ≤ z.2 ∧ z.2 ≤ 64)) →
              Calls Tryz.prog 43 #[brd W H A n c, .slice (some ⟨bl, ol, none⟩) n1 c1, .slice A2 n2 c2, .int .i64 ((k : Int) + 1)] w' fun e w'' => e = .returned (.int .i64 (apA (meetB W) ch (zs.drop (k + 1)) : Int)) ∧ Below w'.heap.size w' w'' from
            fun A2 n2 c2 us ch w' h1 h2 h3 h4 => by
              have h := IH.out A2 n2 c2 us ch (k + 1) w' (by omega) (by omega) h1 h2 h3 h4
              rw [show ((k + 1 : Nat) : Int) = (k : Int) + 1 by omega] at h
              exact h)
          clear hbs l0 gl
          cases hf : fitsA (meetB W) ch (x, y) with
          | true =>
            have HF := Lib.hid hf
            have HFJ := HJ.out.trans hf
            clear hf
            rw [HFJ]
            rcases A2 with _ | ad2
            · have hn0 : n2 = 0 := RC.out.nil_
              subst hn0
              have hus : us = [] := List.length_eq_zero_iff.1 RC.out.2.1
              subst hus
              obtain ⟨i0, hi, hz0, hz1, hz2⟩ := info_parts infoIS
              have HI := Lib.hid hi; have HZ0 := Lib.hid hz0; have HZ2 := Lib.hid hz1; have HZ3 := Lib.hid hz2
              clear hi hz0 hz1 hz2
              go_wp2_with fail
              obtain ⟨WQ, hWQ⟩ : ∃ WQ, WQ = wr := ⟨_, rfl⟩
              subst hWQ
              have RCQ := Lib.hid (RC.out.keep HBS.out); have RLQ := Lib.hid (RL.out.keep HBS.out); have RPQ := Lib.hid (RP.out.keep HBS.out)
              have DL := Lib.hid dl
              have HUL := Lib.hid RCQ.out.2.1
              have HB4 := Lib.hid (Below.refl WQ.heap.size WQ)
              have hsw := Lib.hid (Nat.le_refl WQ.heap.size)
              refine wp_region_held_drew (S := fun w' => w'.cell? ⟨w.heap.size, 0, none⟩ = some (.int .i64 W) ∧ w'.cell? ⟨w.heap.size, 1, none⟩ = some (.int .i64 H) ∧ w'.cell? ⟨w.heap.size, 2, none⟩ = some (.slice A n c)) (by kernel_rfl) ?_ (fun hHeld => ?_)
              · (try dsimp only)
                exact ⟨d0, d1, d2⟩
              refine wpAnyH_take (i := 0) (oi := ⟨_, _, _, _, _, _⟩) (v := ?_) rfl (by kernel_rfl) (by kernel_rfl) (by kernel_rfl) (fun _ _ _ h => h) (Or.inl ⟨by rfl, ?_⟩) (by assumption) ?_
              rotate_left
              · intro w hSw
                (try dsimp only at hSw)
                go_simp
                (try with_reducible rfl)
              (try simp only [Act.put, List.setIfInBounds_toArray, List.set_cons_zero, List.set_cons_succ])
              refine wpAnyH_take (i := 1) (oi := ⟨_, _, _, _, _, _⟩) (v := ?_) rfl (by kernel_rfl) (by kernel_rfl) (by kernel_rfl) (fun _ _ _ h => h) (Or.inl ⟨by rfl, ?_⟩) (by assumption) ?_
              rotate_left
              · intro w hSw
                (try dsimp only at hSw)
                go_simp
                (try with_reducible rfl)
              (try simp only [Act.put, List.setIfInBounds_toArray, List.set_cons_zero, List.set_cons_succ])
              refine wpAnyH_take (i := 3) (oi := ⟨_, _, _, _, _, _⟩) (v := ?_) rfl (by kernel_rfl) (by kernel_rfl) (by kernel_rfl) (fun _ _ _ h => h) (Or.inl ⟨by rfl, ?_⟩) (by assumption) ?_
              rotate_left
              · intro w hSw
                (try dsimp only at hSw)
                go_simp
                (try with_reducible rfl)
              (try simp only [Act.put, List.setIfInBounds_toArray, List.set_cons_zero, List.set_cons_succ])
              refine wpAnyH_take (i := 5) (oi := ⟨_, _, _, _, _, _⟩) (v := ?_) rfl (by kernel_rfl) (by kernel_rfl) (by kernel_rfl) (fun _ _ _ h => h) (Or.inl ⟨by rfl, ?_⟩) (by assumption) ?_
              rotate_left
              · intro w hSw
                (try dsimp only at hSw)
                go_simp
                (try with_reducible rfl)
              (try simp only [Act.put, List.setIfInBounds_toArray, List.set_cons_zero, List.set_cons_succ])
              refine wpAnyH_take (i := 8) (oi := ⟨_, _, _, _, _, _⟩) (v := ?_) rfl (by kernel_rfl) (by kernel_rfl) (by kernel_rfl) (fun _ _ _ h => h) (Or.inl ⟨by rfl, ?_⟩) (by assumption) ?_
              rotate_left
              · intro w hSw
                (try dsimp only at hSw)
                go_simp
                (try with_reducible rfl)
              (try simp only [Act.put, List.setIfInBounds_toArray, List.set_cons_zero, List.set_cons_succ])
              refine wpAnyH_take (i := 9) (oi := ⟨_, _, _, _, _, _⟩) (v := ?_) rfl (by kernel_rfl) (by kernel_rfl) (by kernel_rfl) (fun _ _ _ h => h) (Or.inl ⟨by rfl, ?_⟩) (by assumption) ?_
              rotate_left
              · intro w hSw
                (try dsimp only at hSw)
                go_simp
                (try with_reducible rfl)
              (try simp only [Act.put, List.setIfInBounds_toArray, List.set_cons_zero, List.set_cons_succ])
              refine wpAnyH_ready (rs := [2, 6]) (by kernel_rfl) (by simp) ?_
              refine AllReadyH.cons (o := ⟨_, _, _, _, _, _⟩) rfl (fun K hK => ?_) (AllReadyH.cons (o := ⟨_, _, _, _, _, _⟩) rfl (fun K hK => ?_) AllReadyH.nil)
              · go_simp
                obtain ⟨wE, hwE⟩ : ∃ wE, wE = WQ.alloc (.cells #[] 22) := ⟨_, rfl⟩
                obtain ⟨gE, hgE⟩ : ∃ gE, gE = WQ.heap.size := ⟨_, rfl⟩
                have hb : Below WQ.heap.size WQ wE := by rw [hwE]; exact below_new (Below.refl _ _) _
                have OE := Lib.hid (show OwnK encS 1 22 wE WQ.heap.size (some ⟨gE, 0, none⟩) 0 0 [] by rw [hwE, hgE]; exact own_empty WQ WQ.heap.size hsw.out)
                have gEl : gE < wE.heap.size := by rw [hwE, hgE]; simp
                skip
                rw [← hwE]
                (try rw [← hgE])
                clear hwE hgE
                replace d0 := cell_keep d0 dl hb; replace d1 := cell_keep d1 dl hb; replace d2 := cell_keep d2 dl hb; replace dl := lt_keep dl hb; replace HB4 := Lib.hid (below_next HB4.out hb); replace hsw := Lib.hid (Nat.le_trans hsw.out hb.size)
                clear hb
                refine hK.out _ _ ?_ (fun hHeld => ?_)
                · (try dsimp only)
                  exact ⟨d0, d1, d2⟩
                clear hK K
                (try simp only [Act.put, List.setIfInBounds_toArray, List.set_cons_zero, List.set_cons_succ])
                refine wpAnyH_ready (rs := [4, 6]) (by kernel_rfl) (by simp) ?_
                refine AllReadyH.cons (o := ⟨_, _, _, _, _, _⟩) rfl (fun K hK => ?_) (AllReadyH.cons (o := ⟨_, _, _, _, _, _⟩) rfl (fun K hK => ?_) AllReadyH.nil)
                · have HO0 := OE.out
                  go_simp
                  (try go_wp2_with fail)
                  obtain ⟨wD, hwD⟩ : ∃ wD, wD = wE.drew := ⟨_, rfl⟩
                  have hb : Below wE.heap.size wE wD := by
                    have h := Below.refl wE.heap.size wE
                    rw [hwD]; exact ⟨h.os, h.tape, h.output, h.size, h.block⟩
                  have O4 := Lib.hid (show OwnK encS 1 22 wD WQ.heap.size (some ⟨gE, 0, none⟩) 0 0 [] by rw [hwD]; exact HO0)
                  rw [← hwD]
                  clear hwD HO0
                  replace d0 := cell_keep d0 dl hb; replace d1 := cell_keep d1 dl hb; replace d2 := cell_keep d2 dl hb; replace dl := lt_keep dl hb; replace HB4 := Lib.hid (below_next HB4.out hb); replace hsw := Lib.hid (Nat.le_trans hsw.out hb.size)
                  clear hb
                  refine hK.out _ _ ?_ (fun hHeld => ?_)
                  · (try dsimp only)
                    exact ⟨d0, d1, d2⟩
                  clear hK K
                  (try simp only [Act.put, List.setIfInBounds_toArray, List.set_cons_zero, List.set_cons_succ])
                  refine wpAnyH_ready (rs := [6]) (by kernel_rfl) (by simp) ?_
                  refine AllReadyH.cons (o := ⟨_, _, _, _, _, _⟩) rfl (fun K hK => ?_) AllReadyH.nil
                  go_simp
                  obtain ⟨wz, hwz⟩ : ∃ wz, wz = wD.alloc (.cells #[.slice (some ap) 2 cp] 22) := ⟨_, rfl⟩
                  obtain ⟨gz, hgz⟩ : ∃ gz, gz = wD.heap.size := ⟨_, rfl⟩
                  have hb : Below wD.heap.size wD wz := by rw [hwz]; exact below_new (Below.refl _ _) _
                  have z0 : wz.cell? ⟨gz, 0, none⟩ = some (.slice (some ap) 2 cp) := by rw [hwz, hgz]; go_simp
                  have zl : gz < wz.heap.size := by rw [hwz, hgz]; simp
                  skip
                  rw [← hwz]
                  (try rw [← hgz])
                  clear hwz hgz
                  replace d0 := cell_keep d0 dl hb; replace d1 := cell_keep d1 dl hb; replace d2 := cell_keep d2 dl hb; replace dl := lt_keep dl hb; replace HB4 := Lib.hid (below_next HB4.out hb); replace hsw := Lib.hid (Nat.le_trans hsw.out hb.size); replace O4 := Lib.hid (O4.out.keep hb)
                  clear hb
                  refine hK.out _ _ ?_ (fun hHeld => ?_)
                  · (try dsimp only)
                    exact ⟨d0, d1, d2⟩
                  clear hK K
                  (try simp only [Act.put, List.setIfInBounds_toArray, List.set_cons_zero, List.set_cons_succ])
                  refine wpAnyH_ready (rs := [7]) (by kernel_rfl) (by simp) ?_
                  refine AllReadyH.cons (o := ⟨_, _, _, _, _, _⟩) rfl (fun K hK => ?_) AllReadyH.nil
                  have HZC : ∀ j u, ([((some ap, 2, cp) : SlV)].flatMap encS)[j]? = some u → wz.cell? (Addr.add ⟨gz, 0, none⟩ j) = some u := fun j u hj => by
                    rcases j with _ | j
                    · injection hj with hj
                      subst hj
                      exact z0
                    · simp [encS] at hj
                  refine step_appKg (enc := encS) (k := 1) rfl (.tmp 65) (.tmp 67) 28 22 rfl i0 (.slice none 0 0) 24 Tryz.underlying28 HI.out HZ0.out HZ2.out HZ3.out rfl (by decide) (by decide) (fun _ => rfl) (fun v u hu => by simp [encS] at hu; subst hu; rfl) WQ.heap.size (some ⟨gE, 0, none⟩) 0 0 [] ⟨gz, 0, none⟩ 1 1 [((some ap, 2, cp) : SlV)] (by rfl) O4.out (by rfl) rfl HZC (by omega) hsw.out ?_
                  intro A7 c7 w7 hO7 hg7 hb7
                  have hs7 := hg7.size
                  have O7 := Lib.hid hO7
                  replace d0 := (hb7.cell (p := ⟨w.heap.size, 0, none⟩) DL.out).trans d0; replace d1 := (hb7.cell (p := ⟨w.heap.size, 1, none⟩) DL.out).trans d1; replace d2 := (hb7.cell (p := ⟨w.heap.size, 2, none⟩) DL.out).trans d2; replace dl := Nat.lt_of_lt_of_le DL.out (Nat.le_trans hsw.out hs7); replace HB4 := Lib.hid (HB4.out.trans hb7); replace hsw := Lib.hid (Nat.le_trans hsw.out hs7)
                  clear hO7 hg7 hb7 hs7 HZC z0 zl
                  refine hK.out _ _ ?_ (fun hHeld => ?_)
                  · (try dsimp only)
                    exact ⟨d0, d1, d2⟩
                  clear hK K
                  (try simp only [Act.put, List.setIfInBounds_toArray, List.set_cons_zero, List.set_cons_succ])
                  refine wpAnyH_ready (rs := [10]) (by kernel_rfl) (by simp) ?_
                  refine AllReadyH.cons (o := ⟨_, _, _, _, _, _⟩) rfl (fun K hK => ?_) AllReadyH.nil
                  go_simp
                  have RL7 := RLQ.out.keep HB4.out
                  have RC7 : RdV w7 A7 (0 + 1) ([] ++ [((some ap, 2, cp) : SlV)]) (ch ++ [(x, y)]) := RdV.own O7.out (by rw [List.length_append, HCL.out]; rfl) (by omega) (fun j v z hv hz => by
                    have hul := HUL.out
                    by_cases e : j < 0
                    · rw [List.getElem?_append_left (by omega)] at hv
                      rw [List.getElem?_append_left (by have := HCL.out; omega)] at hz
                      obtain ⟨a9, c9, e9, hr⟩ := RCQ.out.2.2.2.1 j v z hv hz
                      exact ⟨a9, c9, e9, hr.keep HB4.out⟩
                    · rw [List.getElem?_append_right (by omega)] at hv
                      rw [List.getElem?_append_right (by have := HCL.out; omega)] at hz
                      have e0 : j - ([] : List SlV).length = 0 := by
                        rcases Nat.eq_zero_or_pos (j - ([] : List SlV).length) with h | h
                        · exact h
                        · rw [List.getElem?_eq_none (by simp; omega)] at hv; cases hv
                      rw [e0] at hv
                      rw [show j - ch.length = 0 by have := HCL.out; omega] at hz
                      injection hv with hv; injection hz with hz
                      subst hv hz
                      exact ⟨_, _, rfl, RPQ.out.keep HB4.out⟩)
                  have HC7 : ∀ z ∈ ch ++ [(x, y)], (0 ≤ z.1 ∧ z.1 ≤ 64) ∧ (0 ≤ z.2 ∧ z.2 ≤ 64) := fun z hz => by
                    rcases List.mem_append.1 hz with h | h
                    · exact HC64.out z h
                    · have e : z = (x, y) := by simpa using h
                      rw [e]; exact ⟨HX64.out, HY64.out⟩
                  (go_at_call 43; refine (HREC.out A7 (0 + 1) c7 _ (ch ++ [(x, y)]) _ (by omega) RL7 RC7 HC7).mono ?_; rintro e w8 ⟨rfl, hb⟩)
                  replace d0 := cell_keep d0 dl hb; replace d1 := cell_keep d1 dl hb; replace d2 := cell_keep d2 dl hb; replace dl := lt_keep dl hb; replace HB4 := Lib.hid (below_next HB4.out hb); replace hsw := Lib.hid (Nat.le_trans hsw.out hb.size)
                  clear hb RL7 RC7 HC7
                  (try go_wp2_with fail)
                  refine hK.out _ _ ?_ (fun hHeld => ?_)
                  · (try dsimp only)
                    exact ⟨d0, d1, d2⟩
                  clear hK K
                  (try simp only [Act.put, List.setIfInBounds_toArray, List.set_cons_zero, List.set_cons_succ])
                  refine wpAnyH_take (i := 11) (oi := ⟨_, _, _, _, _, _⟩) (v := ?_) rfl (by kernel_rfl) (by kernel_rfl) (by kernel_rfl) (fun _ _ _ h => h) (Or.inl ⟨by rfl, ?_⟩) (by assumption) ?_
                  rotate_left
                  · intro w hSw
                    (try dsimp only at hSw)
                    go_simp
                    (try with_reducible rfl)
                  (try simp only [Act.put, List.setIfInBounds_toArray, List.set_cons_zero, List.set_cons_succ])
                  refine wpAnyH_done (by kernel_rfl) ?_ _
                  have RL4 := RL.out.keep (HBS.out.trans (HB4.out.mono HBS.out.size))
                  have RC4 := RC.out.keep (HBS.out.trans (HB4.out.mono HBS.out.size))
                  replace HBS := Lib.hid (HBS.out.trans (HB4.out.mono HBS.out.size))
                  clear HB4 hsw O7
                  go_wp2_with fail
                  refine (HREC.out none 0 c2 [] ch _ (by omega) RL4 RC4 HC64.out).mono ?_
                  rintro e w9 ⟨rfl, hb⟩
                  replace HBS := Lib.hid (below_next HBS.out hb)
                  clear hb RL4 RC4 d0 d1 d2
                  go_wp2_with fail
                  refine (l1Most2_any _ _ _).mono ?_
                  rintro e w9 ⟨rfl, rfl⟩
                  go_wp2
                  go_ret
                  exact ⟨ret_int (by rw [HST.out, HF.out]; simp; omega), below_next B.out HBS.out⟩
                · go_simp
                  obtain ⟨wz, hwz⟩ : ∃ wz, wz = wE.alloc (.cells #[.slice (some ap) 2 cp] 22) := ⟨_, rfl⟩
                  obtain ⟨gz, hgz⟩ : ∃ gz, gz = wE.heap.size := ⟨_, rfl⟩
                  have hb : Below wE.heap.size wE wz := by rw [hwz]; exact below_new (Below.refl _ _) _
                  have z0 : wz.cell? ⟨gz, 0, none⟩ = some (.slice (some ap) 2 cp) := by rw [hwz, hgz]; go_simp
                  have zl : gz < wz.heap.size := by rw [hwz, hgz]; simp
                  have HNE := Lib.hid (show gz ≠ gE by rw [hgz]; omega)
                  rw [← hwz]
                  (try rw [← hgz])
                  clear hwz hgz
                  replace d0 := cell_keep d0 dl hb; replace d1 := cell_keep d1 dl hb; replace d2 := cell_keep d2 dl hb; replace dl := lt_keep dl hb; replace HB4 := Lib.hid (below_next HB4.out hb); replace hsw := Lib.hid (Nat.le_trans hsw.out hb.size); replace OE := Lib.hid (OE.out.keep hb)
                  clear hb
                  refine hK.out _ _ ?_ (fun hHeld => ?_)
                  · (try dsimp only)
                    exact ⟨d0, d1, d2⟩
                  clear hK K
                  (try simp only [Act.put, List.setIfInBounds_toArray, List.set_cons_zero, List.set_cons_succ])
                  refine wpAnyH_ready (rs := [4]) (by kernel_rfl) (by simp) ?_
                  refine AllReadyH.cons (o := ⟨_, _, _, _, _, _⟩) rfl (fun K hK => ?_) AllReadyH.nil
                  have HO0 := OE.out
                  go_simp
                  (try go_wp2_with fail)
                  obtain ⟨wD, hwD⟩ : ∃ wD, wD = wz.drew := ⟨_, rfl⟩
                  have hb : Below wz.heap.size wz wD := by
                    have h := Below.refl wz.heap.size wz
                    rw [hwD]; exact ⟨h.os, h.tape, h.output, h.size, h.block⟩
                  have O4 := Lib.hid (show OwnK encS 1 22 wD WQ.heap.size (some ⟨gE, 0, none⟩) 0 0 [] by rw [hwD]; exact HO0)
                  rw [← hwD]
                  clear hwD HO0
                  replace d0 := cell_keep d0 dl hb; replace d1 := cell_keep d1 dl hb; replace d2 := cell_keep d2 dl hb; replace dl := lt_keep dl hb; replace HB4 := Lib.hid (below_next HB4.out hb); replace hsw := Lib.hid (Nat.le_trans hsw.out hb.size); replace z0 := cell_keep z0 zl hb; replace zl := lt_keep zl hb
                  clear hb
                  refine hK.out _ _ ?_ (fun hHeld => ?_)
                  · (try dsimp only)
                    exact ⟨d0, d1, d2⟩
                  clear hK K
                  (try simp only [Act.put, List.setIfInBounds_toArray, List.set_cons_zero, List.set_cons_succ])
                  refine wpAnyH_ready (rs := [7]) (by kernel_rfl) (by simp) ?_
                  refine AllReadyH.cons (o := ⟨_, _, _, _, _, _⟩) rfl (fun K hK => ?_) AllReadyH.nil
                  have HZC : ∀ j u, ([((some ap, 2, cp) : SlV)].flatMap encS)[j]? = some u → wD.cell? (Addr.add ⟨gz, 0, none⟩ j) = some u := fun j u hj => by
                    rcases j with _ | j
                    · injection hj with hj
                      subst hj
                      exact z0
                    · simp [encS] at hj
                  refine step_appKg (enc := encS) (k := 1) rfl (.tmp 65) (.tmp 67) 28 22 rfl i0 (.slice none 0 0) 24 Tryz.underlying28 HI.out HZ0.out HZ2.out HZ3.out rfl (by decide) (by decide) (fun _ => rfl) (fun v u hu => by simp [encS] at hu; subst hu; rfl) WQ.heap.size (some ⟨gE, 0, none⟩) 0 0 [] ⟨gz, 0, none⟩ 1 1 [((some ap, 2, cp) : SlV)] (by rfl) O4.out (by rfl) rfl HZC (by omega) hsw.out ?_
                  intro A7 c7 w7 hO7 hg7 hb7
                  have hs7 := hg7.size
                  have O7 := Lib.hid hO7
                  replace d0 := (hb7.cell (p := ⟨w.heap.size, 0, none⟩) DL.out).trans d0; replace d1 := (hb7.cell (p := ⟨w.heap.size, 1, none⟩) DL.out).trans d1; replace d2 := (hb7.cell (p := ⟨w.heap.size, 2, none⟩) DL.out).trans d2; replace dl := Nat.lt_of_lt_of_le DL.out (Nat.le_trans hsw.out hs7); replace HB4 := Lib.hid (HB4.out.trans hb7); replace hsw := Lib.hid (Nat.le_trans hsw.out hs7)
                  clear hO7 hg7 hb7 hs7 HZC z0 zl
                  refine hK.out _ _ ?_ (fun hHeld => ?_)
                  · (try dsimp only)
                    exact ⟨d0, d1, d2⟩
                  clear hK K
                  (try simp only [Act.put, List.setIfInBounds_toArray, List.set_cons_zero, List.set_cons_succ])
                  refine wpAnyH_ready (rs := [10]) (by kernel_rfl) (by simp) ?_
                  refine AllReadyH.cons (o := ⟨_, _, _, _, _, _⟩) rfl (fun K hK => ?_) AllReadyH.nil
                  go_simp
                  have RL7 := RLQ.out.keep HB4.out
                  have RC7 : RdV w7 A7 (0 + 1) ([] ++ [((some ap, 2, cp) : SlV)]) (ch ++ [(x, y)]) := RdV.own O7.out (by rw [List.length_append, HCL.out]; rfl) (by omega) (fun j v z hv hz => by
                    have hul := HUL.out
                    by_cases e : j < 0
                    · rw [List.getElem?_append_left (by omega)] at hv
                      rw [List.getElem?_append_left (by have := HCL.out; omega)] at hz
                      obtain ⟨a9, c9, e9, hr⟩ := RCQ.out.2.2.2.1 j v z hv hz
                      exact ⟨a9, c9, e9, hr.keep HB4.out⟩
                    · rw [List.getElem?_append_right (by omega)] at hv
                      rw [List.getElem?_append_right (by have := HCL.out; omega)] at hz
                      have e0 : j - ([] : List SlV).length = 0 := by
                        rcases Nat.eq_zero_or_pos (j - ([] : List SlV).length) with h | h
                        · exact h
                        · rw [List.getElem?_eq_none (by simp; omega)] at hv; cases hv
                      rw [e0] at hv
                      rw [show j - ch.length = 0 by have := HCL.out; omega] at hz
                      injection hv with hv; injection hz with hz
                      subst hv hz
                      exact ⟨_, _, rfl, RPQ.out.keep HB4.out⟩)
                  have HC7 : ∀ z ∈ ch ++ [(x, y)], (0 ≤ z.1 ∧ z.1 ≤ 64) ∧ (0 ≤ z.2 ∧ z.2 ≤ 64) := fun z hz => by
                    rcases List.mem_append.1 hz with h | h
                    · exact HC64.out z h
                    · have e : z = (x, y) := by simpa using h
                      rw [e]; exact ⟨HX64.out, HY64.out⟩
                  (go_at_call 43; refine (HREC.out A7 (0 + 1) c7 _ (ch ++ [(x, y)]) _ (by omega) RL7 RC7 HC7).mono ?_; rintro e w8 ⟨rfl, hb⟩)
                  replace d0 := cell_keep d0 dl hb; replace d1 := cell_keep d1 dl hb; replace d2 := cell_keep d2 dl hb; replace dl := lt_keep dl hb; replace HB4 := Lib.hid (below_next HB4.out hb); replace hsw := Lib.hid (Nat.le_trans hsw.out hb.size)
                  clear hb RL7 RC7 HC7
                  (try go_wp2_with fail)
                  refine hK.out _ _ ?_ (fun hHeld => ?_)
                  · (try dsimp only)
                    exact ⟨d0, d1, d2⟩
                  clear hK K
                  (try simp only [Act.put, List.setIfInBounds_toArray, List.set_cons_zero, List.set_cons_succ])
                  refine wpAnyH_take (i := 11) (oi := ⟨_, _, _, _, _, _⟩) (v := ?_) rfl (by kernel_rfl) (by kernel_rfl) (by kernel_rfl) (fun _ _ _ h => h) (Or.inl ⟨by rfl, ?_⟩) (by assumption) ?_
                  rotate_left
                  · intro w hSw
                    (try dsimp only at hSw)
                    go_simp
                    (try with_reducible rfl)
                  (try simp only [Act.put, List.setIfInBounds_toArray, List.set_cons_zero, List.set_cons_succ])
                  refine wpAnyH_done (by kernel_rfl) ?_ _
                  have RL4 := RL.out.keep (HBS.out.trans (HB4.out.mono HBS.out.size))
                  have RC4 := RC.out.keep (HBS.out.trans (HB4.out.mono HBS.out.size))
                  replace HBS := Lib.hid (HBS.out.trans (HB4.out.mono HBS.out.size))
                  clear HB4 hsw O7
                  go_wp2_with fail
                  refine (HREC.out none 0 c2 [] ch _ (by omega) RL4 RC4 HC64.out).mono ?_
                  rintro e w9 ⟨rfl, hb⟩
                  replace HBS := Lib.hid (below_next HBS.out hb)
                  clear hb RL4 RC4 d0 d1 d2
                  go_wp2_with fail
                  refine (l1Most2_any _ _ _).mono ?_
                  rintro e w9 ⟨rfl, rfl⟩
                  go_wp2
                  go_ret
                  exact ⟨ret_int (by rw [HST.out, HF.out]; simp; omega), below_next B.out HBS.out⟩
              · go_simp
                obtain ⟨wz, hwz⟩ : ∃ wz, wz = WQ.alloc (.cells #[.slice (some ap) 2 cp] 22) := ⟨_, rfl⟩
                obtain ⟨gz, hgz⟩ : ∃ gz, gz = WQ.heap.size := ⟨_, rfl⟩
                have hb : Below WQ.heap.size WQ wz := by rw [hwz]; exact below_new (Below.refl _ _) _
                have z0 : wz.cell? ⟨gz, 0, none⟩ = some (.slice (some ap) 2 cp) := by rw [hwz, hgz]; go_simp
                have zl : gz < wz.heap.size := by rw [hwz, hgz]; simp
                skip
                rw [← hwz]
                (try rw [← hgz])
                clear hwz hgz
                replace d0 := cell_keep d0 dl hb; replace d1 := cell_keep d1 dl hb; replace d2 := cell_keep d2 dl hb; replace dl := lt_keep dl hb; replace HB4 := Lib.hid (below_next HB4.out hb); replace hsw := Lib.hid (Nat.le_trans hsw.out hb.size)
                clear hb
                refine hK.out _ _ ?_ (fun hHeld => ?_)
                · (try dsimp only)
                  exact ⟨d0, d1, d2⟩
                clear hK K
                (try simp only [Act.put, List.setIfInBounds_toArray, List.set_cons_zero, List.set_cons_succ])
                refine wpAnyH_ready (rs := [2]) (by kernel_rfl) (by simp) ?_
                refine AllReadyH.cons (o := ⟨_, _, _, _, _, _⟩) rfl (fun K hK => ?_) AllReadyH.nil
                go_simp
                obtain ⟨wE, hwE⟩ : ∃ wE, wE = wz.alloc (.cells #[] 22) := ⟨_, rfl⟩
                obtain ⟨gE, hgE⟩ : ∃ gE, gE = wz.heap.size := ⟨_, rfl⟩
                have hb : Below wz.heap.size wz wE := by rw [hwE]; exact below_new (Below.refl _ _) _
                have OE := Lib.hid (show OwnK encS 1 22 wE WQ.heap.size (some ⟨gE, 0, none⟩) 0 0 [] by rw [hwE, hgE]; exact own_empty wz WQ.heap.size hsw.out)
                have gEl : gE < wE.heap.size := by rw [hwE, hgE]; simp
                have HNE := Lib.hid (show gz ≠ gE by rw [hgE]; omega)
                rw [← hwE]
                (try rw [← hgE])
                clear hwE hgE
                replace d0 := cell_keep d0 dl hb; replace d1 := cell_keep d1 dl hb; replace d2 := cell_keep d2 dl hb; replace dl := lt_keep dl hb; replace HB4 := Lib.hid (below_next HB4.out hb); replace hsw := Lib.hid (Nat.le_trans hsw.out hb.size); replace z0 := cell_keep z0 zl hb; replace zl := lt_keep zl hb
                clear hb
                refine hK.out _ _ ?_ (fun hHeld => ?_)
                · (try dsimp only)
                  exact ⟨d0, d1, d2⟩
                clear hK K
                (try simp only [Act.put, List.setIfInBounds_toArray, List.set_cons_zero, List.set_cons_succ])
                refine wpAnyH_ready (rs := [4]) (by kernel_rfl) (by simp) ?_
                refine AllReadyH.cons (o := ⟨_, _, _, _, _, _⟩) rfl (fun K hK => ?_) AllReadyH.nil
                have HO0 := OE.out
                go_simp
                (try go_wp2_with fail)
                obtain ⟨wD, hwD⟩ : ∃ wD, wD = wE.drew := ⟨_, rfl⟩
                have hb : Below wE.heap.size wE wD := by
                  have h := Below.refl wE.heap.size wE
                  rw [hwD]; exact ⟨h.os, h.tape, h.output, h.size, h.block⟩
                have O4 := Lib.hid (show OwnK encS 1 22 wD WQ.heap.size (some ⟨gE, 0, none⟩) 0 0 [] by rw [hwD]; exact HO0)
                rw [← hwD]
                clear hwD HO0
                replace d0 := cell_keep d0 dl hb; replace d1 := cell_keep d1 dl hb; replace d2 := cell_keep d2 dl hb; replace dl := lt_keep dl hb; replace HB4 := Lib.hid (below_next HB4.out hb); replace hsw := Lib.hid (Nat.le_trans hsw.out hb.size); replace z0 := cell_keep z0 zl hb; replace zl := lt_keep zl hb
                clear hb
                refine hK.out _ _ ?_ (fun hHeld => ?_)
                · (try dsimp only)
                  exact ⟨d0, d1, d2⟩
                clear hK K
                (try simp only [Act.put, List.setIfInBounds_toArray, List.set_cons_zero, List.set_cons_succ])
                refine wpAnyH_ready (rs := [7]) (by kernel_rfl) (by simp) ?_
                refine AllReadyH.cons (o := ⟨_, _, _, _, _, _⟩) rfl (fun K hK => ?_) AllReadyH.nil
                have HZC : ∀ j u, ([((some ap, 2, cp) : SlV)].flatMap encS)[j]? = some u → wD.cell? (Addr.add ⟨gz, 0, none⟩ j) = some u := fun j u hj => by
                  rcases j with _ | j
                  · injection hj with hj
                    subst hj
                    exact z0
                  · simp [encS] at hj
                refine step_appKg (enc := encS) (k := 1) rfl (.tmp 65) (.tmp 67) 28 22 rfl i0 (.slice none 0 0) 24 Tryz.underlying28 HI.out HZ0.out HZ2.out HZ3.out rfl (by decide) (by decide) (fun _ => rfl) (fun v u hu => by simp [encS] at hu; subst hu; rfl) WQ.heap.size (some ⟨gE, 0, none⟩) 0 0 [] ⟨gz, 0, none⟩ 1 1 [((some ap, 2, cp) : SlV)] (by rfl) O4.out (by rfl) rfl HZC (by omega) hsw.out ?_
                intro A7 c7 w7 hO7 hg7 hb7
                have hs7 := hg7.size
                have O7 := Lib.hid hO7
                replace d0 := (hb7.cell (p := ⟨w.heap.size, 0, none⟩) DL.out).trans d0; replace d1 := (hb7.cell (p := ⟨w.heap.size, 1, none⟩) DL.out).trans d1; replace d2 := (hb7.cell (p := ⟨w.heap.size, 2, none⟩) DL.out).trans d2; replace dl := Nat.lt_of_lt_of_le DL.out (Nat.le_trans hsw.out hs7); replace HB4 := Lib.hid (HB4.out.trans hb7); replace hsw := Lib.hid (Nat.le_trans hsw.out hs7)
                clear hO7 hg7 hb7 hs7 HZC z0 zl
                refine hK.out _ _ ?_ (fun hHeld => ?_)
                · (try dsimp only)
                  exact ⟨d0, d1, d2⟩
                clear hK K
                (try simp only [Act.put, List.setIfInBounds_toArray, List.set_cons_zero, List.set_cons_succ])
                refine wpAnyH_ready (rs := [10]) (by kernel_rfl) (by simp) ?_
                refine AllReadyH.cons (o := ⟨_, _, _, _, _, _⟩) rfl (fun K hK => ?_) AllReadyH.nil
                go_simp
                have RL7 := RLQ.out.keep HB4.out
                have RC7 : RdV w7 A7 (0 + 1) ([] ++ [((some ap, 2, cp) : SlV)]) (ch ++ [(x, y)]) := RdV.own O7.out (by rw [List.length_append, HCL.out]; rfl) (by omega) (fun j v z hv hz => by
                  have hul := HUL.out
                  by_cases e : j < 0
                  · rw [List.getElem?_append_left (by omega)] at hv
                    rw [List.getElem?_append_left (by have := HCL.out; omega)] at hz
                    obtain ⟨a9, c9, e9, hr⟩ := RCQ.out.2.2.2.1 j v z hv hz
                    exact ⟨a9, c9, e9, hr.keep HB4.out⟩
                  · rw [List.getElem?_append_right (by omega)] at hv
                    rw [List.getElem?_append_right (by have := HCL.out; omega)] at hz
                    have e0 : j - ([] : List SlV).length = 0 := by
                      rcases Nat.eq_zero_or_pos (j - ([] : List SlV).length) with h | h
                      · exact h
                      · rw [List.getElem?_eq_none (by simp; omega)] at hv; cases hv
                    rw [e0] at hv
                    rw [show j - ch.length = 0 by have := HCL.out; omega] at hz
                    injection hv with hv; injection hz with hz
                    subst hv hz
                    exact ⟨_, _, rfl, RPQ.out.keep HB4.out⟩)
                have HC7 : ∀ z ∈ ch ++ [(x, y)], (0 ≤ z.1 ∧ z.1 ≤ 64) ∧ (0 ≤ z.2 ∧ z.2 ≤ 64) := fun z hz => by
                  rcases List.mem_append.1 hz with h | h
                  · exact HC64.out z h
                  · have e : z = (x, y) := by simpa using h
                    rw [e]; exact ⟨HX64.out, HY64.out⟩
                (go_at_call 43; refine (HREC.out A7 (0 + 1) c7 _ (ch ++ [(x, y)]) _ (by omega) RL7 RC7 HC7).mono ?_; rintro e w8 ⟨rfl, hb⟩)
                replace d0 := cell_keep d0 dl hb; replace d1 := cell_keep d1 dl hb; replace d2 := cell_keep d2 dl hb; replace dl := lt_keep dl hb; replace HB4 := Lib.hid (below_next HB4.out hb); replace hsw := Lib.hid (Nat.le_trans hsw.out hb.size)
                clear hb RL7 RC7 HC7
                (try go_wp2_with fail)
                refine hK.out _ _ ?_ (fun hHeld => ?_)
                · (try dsimp only)
                  exact ⟨d0, d1, d2⟩
                clear hK K
                (try simp only [Act.put, List.setIfInBounds_toArray, List.set_cons_zero, List.set_cons_succ])
                refine wpAnyH_take (i := 11) (oi := ⟨_, _, _, _, _, _⟩) (v := ?_) rfl (by kernel_rfl) (by kernel_rfl) (by kernel_rfl) (fun _ _ _ h => h) (Or.inl ⟨by rfl, ?_⟩) (by assumption) ?_
                rotate_left
                · intro w hSw
                  (try dsimp only at hSw)
                  go_simp
                  (try with_reducible rfl)
                (try simp only [Act.put, List.setIfInBounds_toArray, List.set_cons_zero, List.set_cons_succ])
                refine wpAnyH_done (by kernel_rfl) ?_ _
                have RL4 := RL.out.keep (HBS.out.trans (HB4.out.mono HBS.out.size))
                have RC4 := RC.out.keep (HBS.out.trans (HB4.out.mono HBS.out.size))
                replace HBS := Lib.hid (HBS.out.trans (HB4.out.mono HBS.out.size))
                clear HB4 hsw O7
                go_wp2_with fail
                refine (HREC.out none 0 c2 [] ch _ (by omega) RL4 RC4 HC64.out).mono ?_
                rintro e w9 ⟨rfl, hb⟩
                replace HBS := Lib.hid (below_next HBS.out hb)
                clear hb RL4 RC4 d0 d1 d2
                go_wp2_with fail
                refine (l1Most2_any _ _ _).mono ?_
                rintro e w9 ⟨rfl, rfl⟩
                go_wp2
                go_ret
                exact ⟨ret_int (by rw [HST.out, HF.out]; simp; omega), below_next B.out HBS.out⟩
            · obtain ⟨i0, hi, hz0, hz1, hz2⟩ := info_parts infoIS
              have HI := Lib.hid hi; have HZ0 := Lib.hid hz0; have HZ2 := Lib.hid hz1; have HZ3 := Lib.hid hz2
              clear hi hz0 hz1 hz2
              go_wp2_with fail
              obtain ⟨WQ, hWQ⟩ : ∃ WQ, WQ = wr := ⟨_, rfl⟩
              subst hWQ
              have RCQ := Lib.hid (RC.out.keep HBS.out); have RLQ := Lib.hid (RL.out.keep HBS.out); have RPQ := Lib.hid (RP.out.keep HBS.out)
              have DL := Lib.hid dl
              have HUL := Lib.hid RCQ.out.2.1
              have HB4 := Lib.hid (Below.refl WQ.heap.size WQ)
              have hsw := Lib.hid (Nat.le_refl WQ.heap.size)
              refine wp_region_held_drew (S := fun w' => w'.cell? ⟨w.heap.size, 0, none⟩ = some (.int .i64 W) ∧ w'.cell? ⟨w.heap.size, 1, none⟩ = some (.int .i64 H) ∧ w'.cell? ⟨w.heap.size, 2, none⟩ = some (.slice A n c)) (by kernel_rfl) ?_ (fun hHeld => ?_)
              · (try dsimp only)
                exact ⟨d0, d1, d2⟩
              refine wpAnyH_take (i := 0) (oi := ⟨_, _, _, _, _, _⟩) (v := ?_) rfl (by kernel_rfl) (by kernel_rfl) (by kernel_rfl) (fun _ _ _ h => h) (Or.inl ⟨by rfl, ?_⟩) (by assumption) ?_
              rotate_left
              · intro w hSw
                (try dsimp only at hSw)
                go_simp
                (try with_reducible rfl)
              (try simp only [Act.put, List.setIfInBounds_toArray, List.set_cons_zero, List.set_cons_succ])
              refine wpAnyH_take (i := 1) (oi := ⟨_, _, _, _, _, _⟩) (v := ?_) rfl (by kernel_rfl) (by kernel_rfl) (by kernel_rfl) (fun _ _ _ h => h) (Or.inl ⟨by rfl, ?_⟩) (by assumption) ?_
              rotate_left
              · intro w hSw
                (try dsimp only at hSw)
                go_simp
                (try with_reducible rfl)
              (try simp only [Act.put, List.setIfInBounds_toArray, List.set_cons_zero, List.set_cons_succ])
              refine wpAnyH_take (i := 3) (oi := ⟨_, _, _, _, _, _⟩) (v := ?_) rfl (by kernel_rfl) (by kernel_rfl) (by kernel_rfl) (fun _ _ _ h => h) (Or.inl ⟨by rfl, ?_⟩) (by assumption) ?_
              rotate_left
              · intro w hSw
                (try dsimp only at hSw)
                go_simp
                (try with_reducible rfl)
              (try simp only [Act.put, List.setIfInBounds_toArray, List.set_cons_zero, List.set_cons_succ])
              refine wpAnyH_take (i := 5) (oi := ⟨_, _, _, _, _, _⟩) (v := ?_) rfl (by kernel_rfl) (by kernel_rfl) (by kernel_rfl) (fun _ _ _ h => h) (Or.inl ⟨by rfl, ?_⟩) (by assumption) ?_
              rotate_left
              · intro w hSw
                (try dsimp only at hSw)
                go_simp
                (try with_reducible rfl)
              (try simp only [Act.put, List.setIfInBounds_toArray, List.set_cons_zero, List.set_cons_succ])
              refine wpAnyH_take (i := 8) (oi := ⟨_, _, _, _, _, _⟩) (v := ?_) rfl (by kernel_rfl) (by kernel_rfl) (by kernel_rfl) (fun _ _ _ h => h) (Or.inl ⟨by rfl, ?_⟩) (by assumption) ?_
              rotate_left
              · intro w hSw
                (try dsimp only at hSw)
                go_simp
                (try with_reducible rfl)
              (try simp only [Act.put, List.setIfInBounds_toArray, List.set_cons_zero, List.set_cons_succ])
              refine wpAnyH_take (i := 9) (oi := ⟨_, _, _, _, _, _⟩) (v := ?_) rfl (by kernel_rfl) (by kernel_rfl) (by kernel_rfl) (fun _ _ _ h => h) (Or.inl ⟨by rfl, ?_⟩) (by assumption) ?_
              rotate_left
              · intro w hSw
                (try dsimp only at hSw)
                go_simp
                (try with_reducible rfl)
              (try simp only [Act.put, List.setIfInBounds_toArray, List.set_cons_zero, List.set_cons_succ])
              refine wpAnyH_ready (rs := [2, 6]) (by kernel_rfl) (by simp) ?_
              refine AllReadyH.cons (o := ⟨_, _, _, _, _, _⟩) rfl (fun K hK => ?_) (AllReadyH.cons (o := ⟨_, _, _, _, _, _⟩) rfl (fun K hK => ?_) AllReadyH.nil)
              · go_simp
                obtain ⟨wE, hwE⟩ : ∃ wE, wE = WQ.alloc (.cells #[] 22) := ⟨_, rfl⟩
                obtain ⟨gE, hgE⟩ : ∃ gE, gE = WQ.heap.size := ⟨_, rfl⟩
                have hb : Below WQ.heap.size WQ wE := by rw [hwE]; exact below_new (Below.refl _ _) _
                have OE := Lib.hid (show OwnK encS 1 22 wE WQ.heap.size (some ⟨gE, 0, none⟩) 0 0 [] by rw [hwE, hgE]; exact own_empty WQ WQ.heap.size hsw.out)
                have gEl : gE < wE.heap.size := by rw [hwE, hgE]; simp
                skip
                rw [← hwE]
                (try rw [← hgE])
                clear hwE hgE
                replace d0 := cell_keep d0 dl hb; replace d1 := cell_keep d1 dl hb; replace d2 := cell_keep d2 dl hb; replace dl := lt_keep dl hb; replace HB4 := Lib.hid (below_next HB4.out hb); replace hsw := Lib.hid (Nat.le_trans hsw.out hb.size)
                clear hb
                refine hK.out _ _ ?_ (fun hHeld => ?_)
                · (try dsimp only)
                  exact ⟨d0, d1, d2⟩
                clear hK K
                (try simp only [Act.put, List.setIfInBounds_toArray, List.set_cons_zero, List.set_cons_succ])
                refine wpAnyH_ready (rs := [4, 6]) (by kernel_rfl) (by simp) ?_
                refine AllReadyH.cons (o := ⟨_, _, _, _, _, _⟩) rfl (fun K hK => ?_) (AllReadyH.cons (o := ⟨_, _, _, _, _, _⟩) rfl (fun K hK => ?_) AllReadyH.nil)
                · have HYC := (RCQ.out.keep HB4.out).cells
                  refine step_appKg (enc := encS) (k := 1) rfl (.tmp 63) (.tmp 64) 28 22 rfl i0 (.slice none 0 0) 24 Tryz.underlying28 HI.out HZ0.out HZ2.out HZ3.out rfl (by decide) (by decide) (fun _ => rfl) (fun v u hu => by simp [encS] at hu; subst hu; rfl) WQ.heap.size (some ⟨gE, 0, none⟩) 0 0 [] ad2 n2 c2 us (by rfl) OE.out (by rfl) HUL.out HYC (by omega) hsw.out ?_
                  intro A4 c4 w4 hO4 hg4 hb4
                  replace hb4 : Below WQ.heap.size wE w4 := ⟨hb4.os, hb4.tape, hb4.output, hb4.size, hb4.block⟩
                  replace hg4 : wE.grownBy w4 (rowOf (some ⟨gE, 0, none⟩)) := ⟨hg4.os, hg4.tape, hg4.output, hg4.size, hg4.block⟩
                  have hs4 := hg4.size
                  (try simp only [Nat.zero_add])
                  rw [Nat.zero_add, List.nil_append] at hO4
                  have O4 := Lib.hid hO4
                  skip
                  replace d0 := (hb4.cell (p := ⟨w.heap.size, 0, none⟩) DL.out).trans d0; replace d1 := (hb4.cell (p := ⟨w.heap.size, 1, none⟩) DL.out).trans d1; replace d2 := (hb4.cell (p := ⟨w.heap.size, 2, none⟩) DL.out).trans d2; replace dl := Nat.lt_of_lt_of_le DL.out (Nat.le_trans hsw.out hs4); replace HB4 := Lib.hid (HB4.out.trans hb4); replace hsw := Lib.hid (Nat.le_trans hsw.out hs4)
                  clear hO4 hg4 hb4 hs4 HYC
                  refine hK.out _ _ ?_ (fun hHeld => ?_)
                  · (try dsimp only)
                    exact ⟨d0, d1, d2⟩
                  clear hK K
                  (try simp only [Act.put, List.setIfInBounds_toArray, List.set_cons_zero, List.set_cons_succ])
                  refine wpAnyH_ready (rs := [6]) (by kernel_rfl) (by simp) ?_
                  refine AllReadyH.cons (o := ⟨_, _, _, _, _, _⟩) rfl (fun K hK => ?_) AllReadyH.nil
                  go_simp
                  obtain ⟨wz, hwz⟩ : ∃ wz, wz = w4.alloc (.cells #[.slice (some ap) 2 cp] 22) := ⟨_, rfl⟩
                  obtain ⟨gz, hgz⟩ : ∃ gz, gz = w4.heap.size := ⟨_, rfl⟩
                  have hb : Below w4.heap.size w4 wz := by rw [hwz]; exact below_new (Below.refl _ _) _
                  have z0 : wz.cell? ⟨gz, 0, none⟩ = some (.slice (some ap) 2 cp) := by rw [hwz, hgz]; go_simp
                  have zl : gz < wz.heap.size := by rw [hwz, hgz]; simp
                  skip
                  rw [← hwz]
                  (try rw [← hgz])
                  clear hwz hgz
                  replace d0 := cell_keep d0 dl hb; replace d1 := cell_keep d1 dl hb; replace d2 := cell_keep d2 dl hb; replace dl := lt_keep dl hb; replace HB4 := Lib.hid (below_next HB4.out hb); replace hsw := Lib.hid (Nat.le_trans hsw.out hb.size); replace O4 := Lib.hid (O4.out.keep hb)
                  clear hb
                  refine hK.out _ _ ?_ (fun hHeld => ?_)
                  · (try dsimp only)
                    exact ⟨d0, d1, d2⟩
                  clear hK K
                  (try simp only [Act.put, List.setIfInBounds_toArray, List.set_cons_zero, List.set_cons_succ])
                  refine wpAnyH_ready (rs := [7]) (by kernel_rfl) (by simp) ?_
                  refine AllReadyH.cons (o := ⟨_, _, _, _, _, _⟩) rfl (fun K hK => ?_) AllReadyH.nil
                  have HZC : ∀ j u, ([((some ap, 2, cp) : SlV)].flatMap encS)[j]? = some u → wz.cell? (Addr.add ⟨gz, 0, none⟩ j) = some u := fun j u hj => by
                    rcases j with _ | j
                    · injection hj with hj
                      subst hj
                      exact z0
                    · simp [encS] at hj
                  refine step_appKg (enc := encS) (k := 1) rfl (.tmp 65) (.tmp 67) 28 22 rfl i0 (.slice none 0 0) 24 Tryz.underlying28 HI.out HZ0.out HZ2.out HZ3.out rfl (by decide) (by decide) (fun _ => rfl) (fun v u hu => by simp [encS] at hu; subst hu; rfl) WQ.heap.size A4 n2 c4 us ⟨gz, 0, none⟩ 1 1 [((some ap, 2, cp) : SlV)] (by rfl) O4.out (by rfl) rfl HZC (by omega) hsw.out ?_
                  intro A7 c7 w7 hO7 hg7 hb7
                  have hs7 := hg7.size
                  have O7 := Lib.hid hO7
                  replace d0 := (hb7.cell (p := ⟨w.heap.size, 0, none⟩) DL.out).trans d0; replace d1 := (hb7.cell (p := ⟨w.heap.size, 1, none⟩) DL.out).trans d1; replace d2 := (hb7.cell (p := ⟨w.heap.size, 2, none⟩) DL.out).trans d2; replace dl := Nat.lt_of_lt_of_le DL.out (Nat.le_trans hsw.out hs7); replace HB4 := Lib.hid (HB4.out.trans hb7); replace hsw := Lib.hid (Nat.le_trans hsw.out hs7)
                  clear hO7 hg7 hb7 hs7 HZC z0 zl
                  refine hK.out _ _ ?_ (fun hHeld => ?_)
                  · (try dsimp only)
                    exact ⟨d0, d1, d2⟩
                  clear hK K
                  (try simp only [Act.put, List.setIfInBounds_toArray, List.set_cons_zero, List.set_cons_succ])
                  refine wpAnyH_ready (rs := [10]) (by kernel_rfl) (by simp) ?_
                  refine AllReadyH.cons (o := ⟨_, _, _, _, _, _⟩) rfl (fun K hK => ?_) AllReadyH.nil
                  go_simp
                  have RL7 := RLQ.out.keep HB4.out
                  have RC7 : RdV w7 A7 (n2 + 1) (us ++ [((some ap, 2, cp) : SlV)]) (ch ++ [(x, y)]) := RdV.own O7.out (by rw [List.length_append, HCL.out]; rfl) (by omega) (fun j v z hv hz => by
                    have hul := HUL.out
                    by_cases e : j < n2
                    · rw [List.getElem?_append_left (by omega)] at hv
                      rw [List.getElem?_append_left (by have := HCL.out; omega)] at hz
                      obtain ⟨a9, c9, e9, hr⟩ := RCQ.out.2.2.2.1 j v z hv hz
                      exact ⟨a9, c9, e9, hr.keep HB4.out⟩
                    · rw [List.getElem?_append_right (by omega)] at hv
                      rw [List.getElem?_append_right (by have := HCL.out; omega)] at hz
                      have e0 : j - us.length = 0 := by
                        rcases Nat.eq_zero_or_pos (j - us.length) with h | h
                        · exact h
                        · rw [List.getElem?_eq_none (by simp; omega)] at hv; cases hv
                      rw [e0] at hv
                      rw [show j - ch.length = 0 by have := HCL.out; omega] at hz
                      injection hv with hv; injection hz with hz
                      subst hv hz
                      exact ⟨_, _, rfl, RPQ.out.keep HB4.out⟩)
                  have HC7 : ∀ z ∈ ch ++ [(x, y)], (0 ≤ z.1 ∧ z.1 ≤ 64) ∧ (0 ≤ z.2 ∧ z.2 ≤ 64) := fun z hz => by
                    rcases List.mem_append.1 hz with h | h
                    · exact HC64.out z h
                    · have e : z = (x, y) := by simpa using h
                      rw [e]; exact ⟨HX64.out, HY64.out⟩
                  (go_at_call 43; refine (HREC.out A7 (n2 + 1) c7 _ (ch ++ [(x, y)]) _ (by omega) RL7 RC7 HC7).mono ?_; rintro e w8 ⟨rfl, hb⟩)
                  replace d0 := cell_keep d0 dl hb; replace d1 := cell_keep d1 dl hb; replace d2 := cell_keep d2 dl hb; replace dl := lt_keep dl hb; replace HB4 := Lib.hid (below_next HB4.out hb); replace hsw := Lib.hid (Nat.le_trans hsw.out hb.size)
                  clear hb RL7 RC7 HC7
                  (try go_wp2_with fail)
                  refine hK.out _ _ ?_ (fun hHeld => ?_)
                  · (try dsimp only)
                    exact ⟨d0, d1, d2⟩
                  clear hK K
                  (try simp only [Act.put, List.setIfInBounds_toArray, List.set_cons_zero, List.set_cons_succ])
                  refine wpAnyH_take (i := 11) (oi := ⟨_, _, _, _, _, _⟩) (v := ?_) rfl (by kernel_rfl) (by kernel_rfl) (by kernel_rfl) (fun _ _ _ h => h) (Or.inl ⟨by rfl, ?_⟩) (by assumption) ?_
                  rotate_left
                  · intro w hSw
                    (try dsimp only at hSw)
                    go_simp
                    (try with_reducible rfl)
                  (try simp only [Act.put, List.setIfInBounds_toArray, List.set_cons_zero, List.set_cons_succ])
                  refine wpAnyH_done (by kernel_rfl) ?_ _
                  have RL4 := RL.out.keep (HBS.out.trans (HB4.out.mono HBS.out.size))
                  have RC4 := RC.out.keep (HBS.out.trans (HB4.out.mono HBS.out.size))
                  replace HBS := Lib.hid (HBS.out.trans (HB4.out.mono HBS.out.size))
                  clear HB4 hsw O7
                  go_wp2_with fail
                  refine (HREC.out (some ad2) n2 c2 us ch _ (by omega) RL4 RC4 HC64.out).mono ?_
                  rintro e w9 ⟨rfl, hb⟩
                  replace HBS := Lib.hid (below_next HBS.out hb)
                  clear hb RL4 RC4 d0 d1 d2
                  go_wp2_with fail
                  refine (l1Most2_any _ _ _).mono ?_
                  rintro e w9 ⟨rfl, rfl⟩
                  go_wp2
                  go_ret
                  exact ⟨ret_int (by rw [HST.out, HF.out]; simp; omega), below_next B.out HBS.out⟩
                · go_simp
                  obtain ⟨wz, hwz⟩ : ∃ wz, wz = wE.alloc (.cells #[.slice (some ap) 2 cp] 22) := ⟨_, rfl⟩
                  obtain ⟨gz, hgz⟩ : ∃ gz, gz = wE.heap.size := ⟨_, rfl⟩
                  have hb : Below wE.heap.size wE wz := by rw [hwz]; exact below_new (Below.refl _ _) _
                  have z0 : wz.cell? ⟨gz, 0, none⟩ = some (.slice (some ap) 2 cp) := by rw [hwz, hgz]; go_simp
                  have zl : gz < wz.heap.size := by rw [hwz, hgz]; simp
                  have HNE := Lib.hid (show gz ≠ gE by rw [hgz]; omega)
                  rw [← hwz]
                  (try rw [← hgz])
                  clear hwz hgz
                  replace d0 := cell_keep d0 dl hb; replace d1 := cell_keep d1 dl hb; replace d2 := cell_keep d2 dl hb; replace dl := lt_keep dl hb; replace HB4 := Lib.hid (below_next HB4.out hb); replace hsw := Lib.hid (Nat.le_trans hsw.out hb.size); replace OE := Lib.hid (OE.out.keep hb)
                  clear hb
                  refine hK.out _ _ ?_ (fun hHeld => ?_)
                  · (try dsimp only)
                    exact ⟨d0, d1, d2⟩
                  clear hK K
                  (try simp only [Act.put, List.setIfInBounds_toArray, List.set_cons_zero, List.set_cons_succ])
                  refine wpAnyH_ready (rs := [4]) (by kernel_rfl) (by simp) ?_
                  refine AllReadyH.cons (o := ⟨_, _, _, _, _, _⟩) rfl (fun K hK => ?_) AllReadyH.nil
                  have HYC := (RCQ.out.keep HB4.out).cells
                  refine step_appKg (enc := encS) (k := 1) rfl (.tmp 63) (.tmp 64) 28 22 rfl i0 (.slice none 0 0) 24 Tryz.underlying28 HI.out HZ0.out HZ2.out HZ3.out rfl (by decide) (by decide) (fun _ => rfl) (fun v u hu => by simp [encS] at hu; subst hu; rfl) WQ.heap.size (some ⟨gE, 0, none⟩) 0 0 [] ad2 n2 c2 us (by rfl) OE.out (by rfl) HUL.out HYC (by omega) hsw.out ?_
                  intro A4 c4 w4 hO4 hg4 hb4
                  replace hb4 : Below WQ.heap.size wz w4 := ⟨hb4.os, hb4.tape, hb4.output, hb4.size, hb4.block⟩
                  replace hg4 : wz.grownBy w4 (rowOf (some ⟨gE, 0, none⟩)) := ⟨hg4.os, hg4.tape, hg4.output, hg4.size, hg4.block⟩
                  have hs4 := hg4.size
                  (try simp only [Nat.zero_add])
                  rw [Nat.zero_add, List.nil_append] at hO4
                  have O4 := Lib.hid hO4
                  replace z0 := hg4.cell z0 (by simp [rowOf]; exact fun e => by first | exact HNE.out e | exact HNE.out e.symm)
                  replace zl := Nat.lt_of_lt_of_le zl hs4
                  replace d0 := (hb4.cell (p := ⟨w.heap.size, 0, none⟩) DL.out).trans d0; replace d1 := (hb4.cell (p := ⟨w.heap.size, 1, none⟩) DL.out).trans d1; replace d2 := (hb4.cell (p := ⟨w.heap.size, 2, none⟩) DL.out).trans d2; replace dl := Nat.lt_of_lt_of_le DL.out (Nat.le_trans hsw.out hs4); replace HB4 := Lib.hid (HB4.out.trans hb4); replace hsw := Lib.hid (Nat.le_trans hsw.out hs4)
                  clear hO4 hg4 hb4 hs4 HYC
                  refine hK.out _ _ ?_ (fun hHeld => ?_)
                  · (try dsimp only)
                    exact ⟨d0, d1, d2⟩
                  clear hK K
                  (try simp only [Act.put, List.setIfInBounds_toArray, List.set_cons_zero, List.set_cons_succ])
                  refine wpAnyH_ready (rs := [7]) (by kernel_rfl) (by simp) ?_
                  refine AllReadyH.cons (o := ⟨_, _, _, _, _, _⟩) rfl (fun K hK => ?_) AllReadyH.nil
                  have HZC : ∀ j u, ([((some ap, 2, cp) : SlV)].flatMap encS)[j]? = some u → w4.cell? (Addr.add ⟨gz, 0, none⟩ j) = some u := fun j u hj => by
                    rcases j with _ | j
                    · injection hj with hj
                      subst hj
                      exact z0
                    · simp [encS] at hj
                  refine step_appKg (enc := encS) (k := 1) rfl (.tmp 65) (.tmp 67) 28 22 rfl i0 (.slice none 0 0) 24 Tryz.underlying28 HI.out HZ0.out HZ2.out HZ3.out rfl (by decide) (by decide) (fun _ => rfl) (fun v u hu => by simp [encS] at hu; subst hu; rfl) WQ.heap.size A4 n2 c4 us ⟨gz, 0, none⟩ 1 1 [((some ap, 2, cp) : SlV)] (by rfl) O4.out (by rfl) rfl HZC (by omega) hsw.out ?_
                  intro A7 c7 w7 hO7 hg7 hb7
                  have hs7 := hg7.size
                  have O7 := Lib.hid hO7
                  replace d0 := (hb7.cell (p := ⟨w.heap.size, 0, none⟩) DL.out).trans d0; replace d1 := (hb7.cell (p := ⟨w.heap.size, 1, none⟩) DL.out).trans d1; replace d2 := (hb7.cell (p := ⟨w.heap.size, 2, none⟩) DL.out).trans d2; replace dl := Nat.lt_of_lt_of_le DL.out (Nat.le_trans hsw.out hs7); replace HB4 := Lib.hid (HB4.out.trans hb7); replace hsw := Lib.hid (Nat.le_trans hsw.out hs7)
                  clear hO7 hg7 hb7 hs7 HZC z0 zl
                  refine hK.out _ _ ?_ (fun hHeld => ?_)
                  · (try dsimp only)
                    exact ⟨d0, d1, d2⟩
                  clear hK K
                  (try simp only [Act.put, List.setIfInBounds_toArray, List.set_cons_zero, List.set_cons_succ])
                  refine wpAnyH_ready (rs := [10]) (by kernel_rfl) (by simp) ?_
                  refine AllReadyH.cons (o := ⟨_, _, _, _, _, _⟩) rfl (fun K hK => ?_) AllReadyH.nil
                  go_simp
                  have RL7 := RLQ.out.keep HB4.out
                  have RC7 : RdV w7 A7 (n2 + 1) (us ++ [((some ap, 2, cp) : SlV)]) (ch ++ [(x, y)]) := RdV.own O7.out (by rw [List.length_append, HCL.out]; rfl) (by omega) (fun j v z hv hz => by
                    have hul := HUL.out
                    by_cases e : j < n2
                    · rw [List.getElem?_append_left (by omega)] at hv
                      rw [List.getElem?_append_left (by have := HCL.out; omega)] at hz
                      obtain ⟨a9, c9, e9, hr⟩ := RCQ.out.2.2.2.1 j v z hv hz
                      exact ⟨a9, c9, e9, hr.keep HB4.out⟩
                    · rw [List.getElem?_append_right (by omega)] at hv
                      rw [List.getElem?_append_right (by have := HCL.out; omega)] at hz
                      have e0 : j - us.length = 0 := by
                        rcases Nat.eq_zero_or_pos (j - us.length) with h | h
                        · exact h
                        · rw [List.getElem?_eq_none (by simp; omega)] at hv; cases hv
                      rw [e0] at hv
                      rw [show j - ch.length = 0 by have := HCL.out; omega] at hz
                      injection hv with hv; injection hz with hz
                      subst hv hz
                      exact ⟨_, _, rfl, RPQ.out.keep HB4.out⟩)
                  have HC7 : ∀ z ∈ ch ++ [(x, y)], (0 ≤ z.1 ∧ z.1 ≤ 64) ∧ (0 ≤ z.2 ∧ z.2 ≤ 64) := fun z hz => by
                    rcases List.mem_append.1 hz with h | h
                    · exact HC64.out z h
                    · have e : z = (x, y) := by simpa using h
                      rw [e]; exact ⟨HX64.out, HY64.out⟩
                  (go_at_call 43; refine (HREC.out A7 (n2 + 1) c7 _ (ch ++ [(x, y)]) _ (by omega) RL7 RC7 HC7).mono ?_; rintro e w8 ⟨rfl, hb⟩)
                  replace d0 := cell_keep d0 dl hb; replace d1 := cell_keep d1 dl hb; replace d2 := cell_keep d2 dl hb; replace dl := lt_keep dl hb; replace HB4 := Lib.hid (below_next HB4.out hb); replace hsw := Lib.hid (Nat.le_trans hsw.out hb.size)
                  clear hb RL7 RC7 HC7
                  (try go_wp2_with fail)
                  refine hK.out _ _ ?_ (fun hHeld => ?_)
                  · (try dsimp only)
                    exact ⟨d0, d1, d2⟩
                  clear hK K
                  (try simp only [Act.put, List.setIfInBounds_toArray, List.set_cons_zero, List.set_cons_succ])
                  refine wpAnyH_take (i := 11) (oi := ⟨_, _, _, _, _, _⟩) (v := ?_) rfl (by kernel_rfl) (by kernel_rfl) (by kernel_rfl) (fun _ _ _ h => h) (Or.inl ⟨by rfl, ?_⟩) (by assumption) ?_
                  rotate_left
                  · intro w hSw
                    (try dsimp only at hSw)
                    go_simp
                    (try with_reducible rfl)
                  (try simp only [Act.put, List.setIfInBounds_toArray, List.set_cons_zero, List.set_cons_succ])
                  refine wpAnyH_done (by kernel_rfl) ?_ _
                  have RL4 := RL.out.keep (HBS.out.trans (HB4.out.mono HBS.out.size))
                  have RC4 := RC.out.keep (HBS.out.trans (HB4.out.mono HBS.out.size))
                  replace HBS := Lib.hid (HBS.out.trans (HB4.out.mono HBS.out.size))
                  clear HB4 hsw O7
                  go_wp2_with fail
                  refine (HREC.out (some ad2) n2 c2 us ch _ (by omega) RL4 RC4 HC64.out).mono ?_
                  rintro e w9 ⟨rfl, hb⟩
                  replace HBS := Lib.hid (below_next HBS.out hb)
                  clear hb RL4 RC4 d0 d1 d2
                  go_wp2_with fail
                  refine (l1Most2_any _ _ _).mono ?_
                  rintro e w9 ⟨rfl, rfl⟩
                  go_wp2
                  go_ret
                  exact ⟨ret_int (by rw [HST.out, HF.out]; simp; omega), below_next B.out HBS.out⟩
              · go_simp
                obtain ⟨wz, hwz⟩ : ∃ wz, wz = WQ.alloc (.cells #[.slice (some ap) 2 cp] 22) := ⟨_, rfl⟩
                obtain ⟨gz, hgz⟩ : ∃ gz, gz = WQ.heap.size := ⟨_, rfl⟩
                have hb : Below WQ.heap.size WQ wz := by rw [hwz]; exact below_new (Below.refl _ _) _
                have z0 : wz.cell? ⟨gz, 0, none⟩ = some (.slice (some ap) 2 cp) := by rw [hwz, hgz]; go_simp
                have zl : gz < wz.heap.size := by rw [hwz, hgz]; simp
                skip
                rw [← hwz]
                (try rw [← hgz])
                clear hwz hgz
                replace d0 := cell_keep d0 dl hb; replace d1 := cell_keep d1 dl hb; replace d2 := cell_keep d2 dl hb; replace dl := lt_keep dl hb; replace HB4 := Lib.hid (below_next HB4.out hb); replace hsw := Lib.hid (Nat.le_trans hsw.out hb.size)
                clear hb
                refine hK.out _ _ ?_ (fun hHeld => ?_)
                · (try dsimp only)
                  exact ⟨d0, d1, d2⟩
                clear hK K
                (try simp only [Act.put, List.setIfInBounds_toArray, List.set_cons_zero, List.set_cons_succ])
                refine wpAnyH_ready (rs := [2]) (by kernel_rfl) (by simp) ?_
                refine AllReadyH.cons (o := ⟨_, _, _, _, _, _⟩) rfl (fun K hK => ?_) AllReadyH.nil
                go_simp
                obtain ⟨wE, hwE⟩ : ∃ wE, wE = wz.alloc (.cells #[] 22) := ⟨_, rfl⟩
                obtain ⟨gE, hgE⟩ : ∃ gE, gE = wz.heap.size := ⟨_, rfl⟩
                have hb : Below wz.heap.size wz wE := by rw [hwE]; exact below_new (Below.refl _ _) _
                have OE := Lib.hid (show OwnK encS 1 22 wE WQ.heap.size (some ⟨gE, 0, none⟩) 0 0 [] by rw [hwE, hgE]; exact own_empty wz WQ.heap.size hsw.out)
                have gEl : gE < wE.heap.size := by rw [hwE, hgE]; simp
                have HNE := Lib.hid (show gz ≠ gE by rw [hgE]; omega)
                rw [← hwE]
                (try rw [← hgE])
                clear hwE hgE
                replace d0 := cell_keep d0 dl hb; replace d1 := cell_keep d1 dl hb; replace d2 := cell_keep d2 dl hb; replace dl := lt_keep dl hb; replace HB4 := Lib.hid (below_next HB4.out hb); replace hsw := Lib.hid (Nat.le_trans hsw.out hb.size); replace z0 := cell_keep z0 zl hb; replace zl := lt_keep zl hb
                clear hb
                refine hK.out _ _ ?_ (fun hHeld => ?_)
                · (try dsimp only)
                  exact ⟨d0, d1, d2⟩
                clear hK K
                (try simp only [Act.put, List.setIfInBounds_toArray, List.set_cons_zero, List.set_cons_succ])
                refine wpAnyH_ready (rs := [4]) (by kernel_rfl) (by simp) ?_
                refine AllReadyH.cons (o := ⟨_, _, _, _, _, _⟩) rfl (fun K hK => ?_) AllReadyH.nil
                have HYC := (RCQ.out.keep HB4.out).cells
                refine step_appKg (enc := encS) (k := 1) rfl (.tmp 63) (.tmp 64) 28 22 rfl i0 (.slice none 0 0) 24 Tryz.underlying28 HI.out HZ0.out HZ2.out HZ3.out rfl (by decide) (by decide) (fun _ => rfl) (fun v u hu => by simp [encS] at hu; subst hu; rfl) WQ.heap.size (some ⟨gE, 0, none⟩) 0 0 [] ad2 n2 c2 us (by rfl) OE.out (by rfl) HUL.out HYC (by omega) hsw.out ?_
                intro A4 c4 w4 hO4 hg4 hb4
                replace hb4 : Below WQ.heap.size wE w4 := ⟨hb4.os, hb4.tape, hb4.output, hb4.size, hb4.block⟩
                replace hg4 : wE.grownBy w4 (rowOf (some ⟨gE, 0, none⟩)) := ⟨hg4.os, hg4.tape, hg4.output, hg4.size, hg4.block⟩
                have hs4 := hg4.size
                (try simp only [Nat.zero_add])
                rw [Nat.zero_add, List.nil_append] at hO4
                have O4 := Lib.hid hO4
                replace z0 := hg4.cell z0 (by simp [rowOf]; exact fun e => by first | exact HNE.out e | exact HNE.out e.symm)
                replace zl := Nat.lt_of_lt_of_le zl hs4
                replace d0 := (hb4.cell (p := ⟨w.heap.size, 0, none⟩) DL.out).trans d0; replace d1 := (hb4.cell (p := ⟨w.heap.size, 1, none⟩) DL.out).trans d1; replace d2 := (hb4.cell (p := ⟨w.heap.size, 2, none⟩) DL.out).trans d2; replace dl := Nat.lt_of_lt_of_le DL.out (Nat.le_trans hsw.out hs4); replace HB4 := Lib.hid (HB4.out.trans hb4); replace hsw := Lib.hid (Nat.le_trans hsw.out hs4)
                clear hO4 hg4 hb4 hs4 HYC
                refine hK.out _ _ ?_ (fun hHeld => ?_)
                · (try dsimp only)
                  exact ⟨d0, d1, d2⟩
                clear hK K
                (try simp only [Act.put, List.setIfInBounds_toArray, List.set_cons_zero, List.set_cons_succ])
                refine wpAnyH_ready (rs := [7]) (by kernel_rfl) (by simp) ?_
                refine AllReadyH.cons (o := ⟨_, _, _, _, _, _⟩) rfl (fun K hK => ?_) AllReadyH.nil
                have HZC : ∀ j u, ([((some ap, 2, cp) : SlV)].flatMap encS)[j]? = some u → w4.cell? (Addr.add ⟨gz, 0, none⟩ j) = some u := fun j u hj => by
                  rcases j with _ | j
                  · injection hj with hj
                    subst hj
                    exact z0
                  · simp [encS] at hj
                refine step_appKg (enc := encS) (k := 1) rfl (.tmp 65) (.tmp 67) 28 22 rfl i0 (.slice none 0 0) 24 Tryz.underlying28 HI.out HZ0.out HZ2.out HZ3.out rfl (by decide) (by decide) (fun _ => rfl) (fun v u hu => by simp [encS] at hu; subst hu; rfl) WQ.heap.size A4 n2 c4 us ⟨gz, 0, none⟩ 1 1 [((some ap, 2, cp) : SlV)] (by rfl) O4.out (by rfl) rfl HZC (by omega) hsw.out ?_
                intro A7 c7 w7 hO7 hg7 hb7
                have hs7 := hg7.size
                have O7 := Lib.hid hO7
                replace d0 := (hb7.cell (p := ⟨w.heap.size, 0, none⟩) DL.out).trans d0; replace d1 := (hb7.cell (p := ⟨w.heap.size, 1, none⟩) DL.out).trans d1; replace d2 := (hb7.cell (p := ⟨w.heap.size, 2, none⟩) DL.out).trans d2; replace dl := Nat.lt_of_lt_of_le DL.out (Nat.le_trans hsw.out hs7); replace HB4 := Lib.hid (HB4.out.trans hb7); replace hsw := Lib.hid (Nat.le_trans hsw.out hs7)
                clear hO7 hg7 hb7 hs7 HZC z0 zl
                refine hK.out _ _ ?_ (fun hHeld => ?_)
                · (try dsimp only)
                  exact ⟨d0, d1, d2⟩
                clear hK K
                (try simp only [Act.put, List.setIfInBounds_toArray, List.set_cons_zero, List.set_cons_succ])
                refine wpAnyH_ready (rs := [10]) (by kernel_rfl) (by simp) ?_
                refine AllReadyH.cons (o := ⟨_, _, _, _, _, _⟩) rfl (fun K hK => ?_) AllReadyH.nil
                go_simp
                have RL7 := RLQ.out.keep HB4.out
                have RC7 : RdV w7 A7 (n2 + 1) (us ++ [((some ap, 2, cp) : SlV)]) (ch ++ [(x, y)]) := RdV.own O7.out (by rw [List.length_append, HCL.out]; rfl) (by omega) (fun j v z hv hz => by
                  have hul := HUL.out
                  by_cases e : j < n2
                  · rw [List.getElem?_append_left (by omega)] at hv
                    rw [List.getElem?_append_left (by have := HCL.out; omega)] at hz
                    obtain ⟨a9, c9, e9, hr⟩ := RCQ.out.2.2.2.1 j v z hv hz
                    exact ⟨a9, c9, e9, hr.keep HB4.out⟩
                  · rw [List.getElem?_append_right (by omega)] at hv
                    rw [List.getElem?_append_right (by have := HCL.out; omega)] at hz
                    have e0 : j - us.length = 0 := by
                      rcases Nat.eq_zero_or_pos (j - us.length) with h | h
                      · exact h
                      · rw [List.getElem?_eq_none (by simp; omega)] at hv; cases hv
                    rw [e0] at hv
                    rw [show j - ch.length = 0 by have := HCL.out; omega] at hz
                    injection hv with hv; injection hz with hz
                    subst hv hz
                    exact ⟨_, _, rfl, RPQ.out.keep HB4.out⟩)
                have HC7 : ∀ z ∈ ch ++ [(x, y)], (0 ≤ z.1 ∧ z.1 ≤ 64) ∧ (0 ≤ z.2 ∧ z.2 ≤ 64) := fun z hz => by
                  rcases List.mem_append.1 hz with h | h
                  · exact HC64.out z h
                  · have e : z = (x, y) := by simpa using h
                    rw [e]; exact ⟨HX64.out, HY64.out⟩
                (go_at_call 43; refine (HREC.out A7 (n2 + 1) c7 _ (ch ++ [(x, y)]) _ (by omega) RL7 RC7 HC7).mono ?_; rintro e w8 ⟨rfl, hb⟩)
                replace d0 := cell_keep d0 dl hb; replace d1 := cell_keep d1 dl hb; replace d2 := cell_keep d2 dl hb; replace dl := lt_keep dl hb; replace HB4 := Lib.hid (below_next HB4.out hb); replace hsw := Lib.hid (Nat.le_trans hsw.out hb.size)
                clear hb RL7 RC7 HC7
                (try go_wp2_with fail)
                refine hK.out _ _ ?_ (fun hHeld => ?_)
                · (try dsimp only)
                  exact ⟨d0, d1, d2⟩
                clear hK K
                (try simp only [Act.put, List.setIfInBounds_toArray, List.set_cons_zero, List.set_cons_succ])
                refine wpAnyH_take (i := 11) (oi := ⟨_, _, _, _, _, _⟩) (v := ?_) rfl (by kernel_rfl) (by kernel_rfl) (by kernel_rfl) (fun _ _ _ h => h) (Or.inl ⟨by rfl, ?_⟩) (by assumption) ?_
                rotate_left
                · intro w hSw
                  (try dsimp only at hSw)
                  go_simp
                  (try with_reducible rfl)
                (try simp only [Act.put, List.setIfInBounds_toArray, List.set_cons_zero, List.set_cons_succ])
                refine wpAnyH_done (by kernel_rfl) ?_ _
                have RL4 := RL.out.keep (HBS.out.trans (HB4.out.mono HBS.out.size))
                have RC4 := RC.out.keep (HBS.out.trans (HB4.out.mono HBS.out.size))
                replace HBS := Lib.hid (HBS.out.trans (HB4.out.mono HBS.out.size))
                clear HB4 hsw O7
                go_wp2_with fail
                refine (HREC.out (some ad2) n2 c2 us ch _ (by omega) RL4 RC4 HC64.out).mono ?_
                rintro e w9 ⟨rfl, hb⟩
                replace HBS := Lib.hid (below_next HBS.out hb)
                clear hb RL4 RC4 d0 d1 d2
                go_wp2_with fail
                refine (l1Most2_any _ _ _).mono ?_
                rintro e w9 ⟨rfl, rfl⟩
                go_wp2
                go_ret
                exact ⟨ret_int (by rw [HST.out, HF.out]; simp; omega), below_next B.out HBS.out⟩
          | false =>
            have HF := Lib.hid hf
            have HFJ := HJ.out.trans hf
            clear hf
            rw [HFJ]
            have RL4 := RL.out.keep HBS.out
            have RC4 := RC.out.keep HBS.out
            go_wp2_with fail
            refine (HREC.out A2 n2 c2 us ch _ (by omega) RL4 RC4 HC64.out).mono ?_
            rintro e w9 ⟨rfl, hb⟩
            replace HBS := Lib.hid (below_next HBS.out hb)
            clear hb RL4 RC4 d0 d1 d2
            go_wp2_with fail
            refine (l1Most2_any _ _ _).mono ?_
            rintro e w9 ⟨rfl, rfl⟩
            go_wp2
            go_ret
            exact ⟨ret_int (by rw [HST.out, HF.out]; have := HCL.out; simp; omega), below_next B.out HBS.out⟩

end Go.Proofs.YtbpgkigoboobeaaGreat

namespace Go.Proofs.YtbpgkigoboobeaaGreat
open Go.RowKit

def fewB (W H : Int) (xs : List Int) (a b : Int) : Bool := twoV W H xs a b && decide (((cellsL W H xs).length : Int) ≤ 16)
def okA (W H : Int) (xs : List Int) (a b : Int) : Bool := fewB W H xs a b && !decide ((24 : Int) < ((pairsL W H xs a b).length : Int))
def apartV (W H : Int) (xs : List Int) (a b : Int) : Int := if okA W H xs a b then (mxA (meetB W) (pairsL W H xs a b) : Int) else 0
theorem few_two {W H a b : Int} {xs : List Int} (h : fewB W H xs a b = true) : twoV W H xs a b = true := by simp only [fewB, Bool.and_eq_true] at h; exact h.1

set_option maxRecDepth 100000 in
set_option maxHeartbeats 2000000 in
theorem crFew_any (W H : Int) (A : Option Addr) (n c : Nat) (xs : List Int) (a b : Int) (w : World) (ha : Rd w A n xs) :
    Calls Tryz.prog 42 #[brd W H A n c, lpr a b] w fun e w' => e = .returned (.bool (fewB W H xs a b)) ∧ Below w.heap.size w w' := by
  by_cases ht : twoV W H xs a b = true
  · have HT := Lib.hid ht
    obtain ⟨hW, hH, _, _⟩ := goodB_iff.1 (two_gK ht)
    have HN := Lib.hid (cells_le hW hH)
    clear hW hH
    go_enter Tryz.func42, Tryz.ntmps42
    go_wp2_with fail
    refine (boTwoV_any _ _ _ _ _ _ _ _ _ ((ha.alloc _).alloc _)).mono ?_
    rw [ht]
    rintro e wv ⟨rfl, hb⟩
    have hbx0 := below_box hb
    have a0 : wv.cell? ⟨w.heap.size, 0, none⟩ = some (.int .i64 W) := by simpa using newbox hbx0 0
    have a1 : wv.cell? ⟨w.heap.size, 1, none⟩ = some (.int .i64 H) := by simpa using newbox hbx0 1
    have a2 : wv.cell? ⟨w.heap.size, 2, none⟩ = some (.slice A n c) := by simpa using newbox hbx0 2
    have al : w.heap.size < wv.heap.size := by simpa using newbox_lt hbx0
    have l0 : wv.cell? ⟨w.heap.size + 1, 0, none⟩ = some (.int .i64 a) := by simpa using newbox hb 0
    have l1 : wv.cell? ⟨w.heap.size + 1, 1, none⟩ = some (.int .i64 b) := by simpa using newbox hb 1
    have ll : w.heap.size + 1 < wv.heap.size := by simpa using newbox_lt hb
    have B := Lib.hid (below_box hbx0)
    clear hb hbx0
    go_wp2_with fail
    refine (boCells_any W H A n c xs _ (ha.keep B.out) HN.out).mono ?_
    rintro e w1 ⟨A1, n1, c1, rfl, hst, hb⟩
    have SL := Lib.hid hst.len
    replace a0 := cell_keep a0 al hb
    replace a1 := cell_keep a1 al hb
    replace a2 := cell_keep a2 al hb
    replace al := lt_keep al hb
    replace l0 := cell_keep l0 ll hb
    replace l1 := cell_keep l1 ll hb
    replace ll := lt_keep ll hb
    replace B := Lib.hid (below_next B.out hb)
    clear hb
    go_wp2
    go_ret
    exact ⟨ret_bool (by rw [fewB, HT.out, SL.out]; simp), B.out⟩
  · have ht' : twoV W H xs a b = false := by simpa using ht
    go_enter Tryz.func42, Tryz.ntmps42
    go_wp2_with fail
    refine (boTwoV_any _ _ _ _ _ _ _ _ _ ((ha.alloc _).alloc _)).mono ?_
    rw [ht']
    rintro e wv ⟨rfl, hb⟩
    have hbx0 := below_box hb
    have a0 : wv.cell? ⟨w.heap.size, 0, none⟩ = some (.int .i64 W) := by simpa using newbox hbx0 0
    have a1 : wv.cell? ⟨w.heap.size, 1, none⟩ = some (.int .i64 H) := by simpa using newbox hbx0 1
    have a2 : wv.cell? ⟨w.heap.size, 2, none⟩ = some (.slice A n c) := by simpa using newbox hbx0 2
    have al : w.heap.size < wv.heap.size := by simpa using newbox_lt hbx0
    have l0 : wv.cell? ⟨w.heap.size + 1, 0, none⟩ = some (.int .i64 a) := by simpa using newbox hb 0
    have l1 : wv.cell? ⟨w.heap.size + 1, 1, none⟩ = some (.int .i64 b) := by simpa using newbox hb 1
    have ll : w.heap.size + 1 < wv.heap.size := by simpa using newbox_lt hb
    have B := Lib.hid (below_box hbx0)
    clear hb hbx0
    go_wp2
    go_ret
    exact ⟨ret_bool (by rw [fewB, ht']; rfl), B.out⟩
theorem rdv_parts {w : World} {W H : Int} {lo : Nat} {A : Option Addr} {n c : Nat} {xs : List Int} {a b : Int} (h : PartsIn w lo A n c ((pairsL W H xs a b).map pairL)) (_ : 1 ≤ W * H ∧ W * H ≤ 64) (hl : (pairsL W H xs a b).length ≤ 24) : ∃ vs, RdV w A n vs (pairsL W H xs a b) := by
  obtain ⟨top, ⟨vs, h1, h2, h3, h4, h5⟩, _⟩ := h
  rw [List.length_map] at h2
  refine ⟨vs, RdV.own h1 h2 (by omega) (fun j v z hv hz => ?_)⟩
  have hio := h3 j v (pairL z) hv (by rw [List.getElem?_map, hz]; rfl)
  obtain ⟨V, m, cc⟩ := v
  have hm2 : m = 2 := by have := hio.len; simpa [pairL] using this.symm
  subst hm2
  obtain ⟨gz, hgz, _, _⟩ := hio.some_ (k := 0) (by simp)
  simp only at hgz
  subst hgz
  exact ⟨_, _, rfl, hio.rd⟩

set_option maxRecDepth 100000 in
set_option maxHeartbeats 4000000 in
theorem spec_MostApart (W H : Int) (A : Option Addr) (n c : Nat) (xs : List Int) (a b : Int) (w : World) (ha : Rd w A n xs) :
    Calls Tryz.prog 18 #[brd W H A n c, lpr a b] w fun e w' => e = .returned (.tuple #[.int .i64 (apartV W H xs a b), .bool (okA W H xs a b)]) ∧ Below w.heap.size w w' := by
  by_cases hf : fewB W H xs a b = true
  · have HT := Lib.hid (few_two hf)
    have HG := Lib.hid (two_gK HT.out)
    obtain ⟨hW, hH, _, _⟩ := goodB_iff.1 HG.out
    have HW := Lib.hid hW; have HN := Lib.hid (cells_le hW hH)
    clear hW hH
    by_cases hl : (24 : Int) < ((pairsL W H xs a b).length : Int)
    · have HOK := Lib.hid (show okA W H xs a b = false by rw [okA, decide_eq_true hl]; simp)
      go_enter Tryz.func18, Tryz.ntmps18
      go_wp2_with fail
      refine (crFew_any _ _ _ _ _ _ _ _ _ ((ha.alloc _).alloc _)).mono ?_
      rw [hf]
      rintro e wv ⟨rfl, hb⟩
      have hbx0 := below_box hb
      have a0 : wv.cell? ⟨w.heap.size, 0, none⟩ = some (.int .i64 W) := by simpa using newbox hbx0 0
      have a1 : wv.cell? ⟨w.heap.size, 1, none⟩ = some (.int .i64 H) := by simpa using newbox hbx0 1
      have a2 : wv.cell? ⟨w.heap.size, 2, none⟩ = some (.slice A n c) := by simpa using newbox hbx0 2
      have al : w.heap.size < wv.heap.size := by simpa using newbox_lt hbx0
      have l0 : wv.cell? ⟨w.heap.size + 1, 0, none⟩ = some (.int .i64 a) := by simpa using newbox hb 0
      have l1 : wv.cell? ⟨w.heap.size + 1, 1, none⟩ = some (.int .i64 b) := by simpa using newbox hb 1
      have ll : w.heap.size + 1 < wv.heap.size := by simpa using newbox_lt hb
      have B := Lib.hid (below_box hbx0)
      clear hb hbx0
      go_wp2_with fail
      refine (crLeaps_any W H A n c xs a b _ (ha.keep B.out) HG.out (two_leaper HT.out)).mono ?_
      rintro e w3 ⟨A3, n3, c3, rfl, ⟨top3, hpa3, htop3⟩, hb⟩
      have SL3 := Lib.hid (show (pairsL W H xs a b).length = n3 by obtain ⟨vs, _, h, _⟩ := hpa3; rw [List.length_map] at h; exact h)
      replace a0 := cell_keep a0 al hb
      replace a1 := cell_keep a1 al hb
      replace a2 := cell_keep a2 al hb
      replace al := lt_keep al hb
      replace l0 := cell_keep l0 ll hb
      replace l1 := cell_keep l1 ll hb
      replace ll := lt_keep ll hb
      replace B := Lib.hid (below_next B.out hb)
      clear hb
      have hc : (24 : Int) < (n3 : Int) := by have := SL3.out; omega
      go_wp2
      go_ret2
      exact ⟨by rw [HOK.out, apartV, HOK.out]; rfl, B.out⟩
    · have HOK := Lib.hid (show okA W H xs a b = true by rw [okA, decide_eq_false hl, hf]; rfl)
      have HLE := Lib.hid (show (pairsL W H xs a b).length ≤ 24 by omega)
      go_enter Tryz.func18, Tryz.ntmps18
      go_wp2_with fail
      refine (crFew_any _ _ _ _ _ _ _ _ _ ((ha.alloc _).alloc _)).mono ?_
      rw [hf]
      rintro e wv ⟨rfl, hb⟩
      have hbx0 := below_box hb
      have a0 : wv.cell? ⟨w.heap.size, 0, none⟩ = some (.int .i64 W) := by simpa using newbox hbx0 0
      have a1 : wv.cell? ⟨w.heap.size, 1, none⟩ = some (.int .i64 H) := by simpa using newbox hbx0 1
      have a2 : wv.cell? ⟨w.heap.size, 2, none⟩ = some (.slice A n c) := by simpa using newbox hbx0 2
      have al : w.heap.size < wv.heap.size := by simpa using newbox_lt hbx0
      have l0 : wv.cell? ⟨w.heap.size + 1, 0, none⟩ = some (.int .i64 a) := by simpa using newbox hb 0
      have l1 : wv.cell? ⟨w.heap.size + 1, 1, none⟩ = some (.int .i64 b) := by simpa using newbox hb 1
      have ll : w.heap.size + 1 < wv.heap.size := by simpa using newbox_lt hb
      have B := Lib.hid (below_box hbx0)
      clear hb hbx0
      go_wp2_with fail
      refine (crLeaps_any W H A n c xs a b _ (ha.keep B.out) HG.out (two_leaper HT.out)).mono ?_
      rintro e w3 ⟨A3, n3, c3, rfl, ⟨top3, hpa3, htop3⟩, hb⟩
      have SL3 := Lib.hid (show (pairsL W H xs a b).length = n3 by obtain ⟨vs, _, h, _⟩ := hpa3; rw [List.length_map] at h; exact h)
      replace a0 := cell_keep a0 al hb
      replace a1 := cell_keep a1 al hb
      replace a2 := cell_keep a2 al hb
      replace al := lt_keep al hb
      replace l0 := cell_keep l0 ll hb
      replace l1 := cell_keep l1 ll hb
      replace ll := lt_keep ll hb
      replace B := Lib.hid (below_next B.out hb)
      clear hb
      have hc : ¬ (24 : Int) < (n3 : Int) := by have := SL3.out; omega
      have HZ64 := Lib.hid (show ∀ z ∈ pairsL W H xs a b, (0 ≤ z.1 ∧ z.1 ≤ 64) ∧ (0 ≤ z.2 ∧ z.2 ≤ 64) from fun z hz => by
        have := pairsL_mem HN.out hz
        have := HN.out
        omega)
      go_wp2_with fail
      refine wp_region_held_drew (S := fun w' => w'.cell? ⟨w.heap.size, 0, none⟩ = some (.int .i64 W) ∧ w'.cell? ⟨w.heap.size, 1, none⟩ = some (.int .i64 H) ∧ w'.cell? ⟨w.heap.size, 2, none⟩ = some (.slice A n c) ∧ w'.cell? ⟨w.heap.size + 1, 0, none⟩ = some (.int .i64 a) ∧ w'.cell? ⟨w.heap.size + 1, 1, none⟩ = some (.int .i64 b)) (by kernel_rfl) ?_ (fun hHeld => ?_)
      · (try dsimp only)
        exact ⟨a0, a1, a2, l0, l1⟩
      refine wpAnyH_take (i := 0) (oi := ⟨_, _, _, _, _, _⟩) (v := ?_) rfl (by kernel_rfl) (by kernel_rfl) (by kernel_rfl) (fun _ _ _ h => h) (Or.inl ⟨by rfl, ?_⟩) (by assumption) ?_
      rotate_left
      · intro w hSw
        (try dsimp only at hSw)
        go_simp
        (try with_reducible rfl)
      (try simp only [Act.put, List.setIfInBounds_toArray, List.set_cons_zero, List.set_cons_succ])
      refine wpAnyH_take (i := 1) (oi := ⟨_, _, _, _, _, _⟩) (v := ?_) rfl (by kernel_rfl) (by kernel_rfl) (by kernel_rfl) (fun _ _ _ h => h) (Or.inl ⟨by rfl, ?_⟩) (by assumption) ?_
      rotate_left
      · intro w hSw
        (try dsimp only at hSw)
        go_simp
        (try with_reducible rfl)
      (try simp only [Act.put, List.setIfInBounds_toArray, List.set_cons_zero, List.set_cons_succ])
      refine wpAnyH_take (i := 2) (oi := ⟨_, _, _, _, _, _⟩) (v := ?_) rfl (by kernel_rfl) (by kernel_rfl) (by kernel_rfl) (fun _ _ _ h => h) (Or.inl ⟨by rfl, ?_⟩) (by assumption) ?_
      rotate_left
      · intro w hSw
        (try dsimp only at hSw)
        go_simp
        (try with_reducible rfl)
      (try simp only [Act.put, List.setIfInBounds_toArray, List.set_cons_zero, List.set_cons_succ])
      refine wpAnyH_ready (rs := [3]) (by kernel_rfl) (by simp) ?_
      refine AllReadyH.cons (o := ⟨_, _, _, _, _, _⟩) rfl (fun K hK => ?_) AllReadyH.nil
      go_simp
      (go_at_call 35; refine (crLeaps_any W H A n c xs a b _ (ha.keep B.out).drew1 HG.out (two_leaper HT.out)).mono ?_; rintro e w4 ⟨A4, n4, c4, rfl, hpi, hb⟩; obtain ⟨vs, RZ⟩ := rdv_parts hpi HN.out HLE.out; have SL4 := Lib.hid RZ.1; clear hpi; (repeat (first | replace hb := below_undrew hb | replace hb := below_undrewN hb)); replace a0 := cell_keep a0 al hb; replace a1 := cell_keep a1 al hb; replace a2 := cell_keep a2 al hb; replace al := lt_keep al hb; replace l0 := cell_keep l0 ll hb; replace l1 := cell_keep l1 ll hb; replace ll := lt_keep ll hb; replace B := Lib.hid (below_next B.out hb); clear hb)
      (try go_wp2_with fail)
      refine hK.out _ _ ?_ (fun hHeld => ?_)
      · (try dsimp only)
        exact ⟨a0, a1, a2, l0, l1⟩
      clear hK K
      (try simp only [Act.put, List.setIfInBounds_toArray, List.set_cons_zero, List.set_cons_succ])
      refine wpAnyH_ready (rs := [4]) (by kernel_rfl) (by simp) ?_
      refine AllReadyH.cons (o := ⟨_, _, _, _, _, _⟩) rfl (fun K hK => ?_) AllReadyH.nil
      go_simp
      (have n24 : n4 ≤ 24 := (by have := SL4.out; have := HLE.out; omega); go_at_call 43; refine (crApart_any W H A n c A4 n4 c4 vs (pairsL W H xs a b) HW.out HZ64.out n24 n4 none 0 0 [] [] 0 _ (by omega) (by omega) (by omega) RZ ⟨rfl, rfl, by omega, fun k v z h => by simp at h, fun k v h => by simp at h⟩ (fun z h => by simp at h)).mono ?_; rintro e w5 ⟨rfl, hb⟩; clear RZ; (repeat (first | replace hb := below_undrew hb | replace hb := below_undrewN hb)); replace a0 := cell_keep a0 al hb; replace a1 := cell_keep a1 al hb; replace a2 := cell_keep a2 al hb; replace al := lt_keep al hb; replace l0 := cell_keep l0 ll hb; replace l1 := cell_keep l1 ll hb; replace ll := lt_keep ll hb; replace B := Lib.hid (below_next B.out hb); clear hb)
      (try go_wp2_with fail)
      refine hK.out _ _ ?_ (fun hHeld => ?_)
      · (try dsimp only)
        exact ⟨a0, a1, a2, l0, l1⟩
      clear hK K
      (try simp only [Act.put, List.setIfInBounds_toArray, List.set_cons_zero, List.set_cons_succ])
      refine wpAnyH_take (i := 5) (oi := ⟨_, _, _, _, _, _⟩) (v := ?_) rfl (by kernel_rfl) (by kernel_rfl) (by kernel_rfl) (fun _ _ _ h => h) (Or.inl ⟨by rfl, ?_⟩) (by assumption) ?_
      rotate_left
      · intro w hSw
        (try dsimp only at hSw)
        go_simp
        (try with_reducible rfl)
      (try simp only [Act.put, List.setIfInBounds_toArray, List.set_cons_zero, List.set_cons_succ])
      refine wpAnyH_take (i := 6) (oi := ⟨_, _, _, _, _, _⟩) (v := ?_) rfl (by kernel_rfl) (by kernel_rfl) (by kernel_rfl) (fun _ _ _ h => h) (Or.inl ⟨by rfl, ?_⟩) (by assumption) ?_
      rotate_left
      · intro w hSw
        (try dsimp only at hSw)
        go_simp
        (try with_reducible rfl)
      (try simp only [Act.put, List.setIfInBounds_toArray, List.set_cons_zero, List.set_cons_succ])
      refine wpAnyH_done (by kernel_rfl) ?_ _
      go_wp2
      go_ret2
      refine ⟨?_, B.out⟩
      rw [HOK.out, apartV, if_pos HOK.out]
      simp only [apA_all]
      rfl
  · have hf' : fewB W H xs a b = false := by simpa using hf
    go_enter Tryz.func18, Tryz.ntmps18
    go_wp2_with fail
    refine (crFew_any _ _ _ _ _ _ _ _ _ ((ha.alloc _).alloc _)).mono ?_
    rw [hf']
    rintro e wv ⟨rfl, hb⟩
    have hbx0 := below_box hb
    have a0 : wv.cell? ⟨w.heap.size, 0, none⟩ = some (.int .i64 W) := by simpa using newbox hbx0 0
    have a1 : wv.cell? ⟨w.heap.size, 1, none⟩ = some (.int .i64 H) := by simpa using newbox hbx0 1
    have a2 : wv.cell? ⟨w.heap.size, 2, none⟩ = some (.slice A n c) := by simpa using newbox hbx0 2
    have al : w.heap.size < wv.heap.size := by simpa using newbox_lt hbx0
    have l0 : wv.cell? ⟨w.heap.size + 1, 0, none⟩ = some (.int .i64 a) := by simpa using newbox hb 0
    have l1 : wv.cell? ⟨w.heap.size + 1, 1, none⟩ = some (.int .i64 b) := by simpa using newbox hb 1
    have ll : w.heap.size + 1 < wv.heap.size := by simpa using newbox_lt hb
    have B := Lib.hid (below_box hbx0)
    clear hb hbx0
    go_wp2
    go_ret2
    exact ⟨by rw [apartV, okA, hf']; rfl, B.out⟩

end Go.Proofs.YtbpgkigoboobeaaGreat

namespace Go.Proofs.YtbpgkigoboobeaaGreat
open Go.RowKit

set_option maxRecDepth 100000 in
set_option maxHeartbeats 4000000 in
theorem meets_any (x y u v s t p q : Int) (w : World) (hx : Co x) (hy : Co y) (hu : Co u) (hv : Co v) (hs : Co s) (ht : Co t) (hp : Co p) (hq : Co q) :
    Calls Tryz.prog 75 #[lnv x y u v, lnv s t p q] w fun e w' => e = .returned (.bool (meetS ((x, y), (u, v)) ((s, t), (p, q)))) ∧ Below w.heap.size w w' := by
  have HX := Lib.hid hx; have HY := Lib.hid hy; have HU := Lib.hid hu; have HV := Lib.hid hv; have HS := Lib.hid hs; have HT := Lib.hid ht; have HP := Lib.hid hp; have HQ := Lib.hid hq
  clear hx hy hu hv hs ht hp hq
  obtain ⟨W2, hW2⟩ : ∃ W2, W2 = (w.alloc (.cells #[.int .i64 x, .int .i64 y, .int .i64 u, .int .i64 v] 68)).alloc (.cells #[.int .i64 s, .int .i64 t, .int .i64 p, .int .i64 q] 68) := ⟨_, rfl⟩
  have a0 : W2.cell? ⟨w.heap.size, 0, none⟩ = some (.int .i64 x) := by rw [hW2]; go_simp
  have a1 : W2.cell? ⟨w.heap.size, 1, none⟩ = some (.int .i64 y) := by rw [hW2]; go_simp
  have a2 : W2.cell? ⟨w.heap.size, 2, none⟩ = some (.int .i64 u) := by rw [hW2]; go_simp
  have a3 : W2.cell? ⟨w.heap.size, 3, none⟩ = some (.int .i64 v) := by rw [hW2]; go_simp
  have d0 : W2.cell? ⟨w.heap.size + 1, 0, none⟩ = some (.int .i64 s) := by rw [hW2]; go_simp
  have d1 : W2.cell? ⟨w.heap.size + 1, 1, none⟩ = some (.int .i64 t) := by rw [hW2]; go_simp
  have d2 : W2.cell? ⟨w.heap.size + 1, 2, none⟩ = some (.int .i64 p) := by rw [hW2]; go_simp
  have d3 : W2.cell? ⟨w.heap.size + 1, 3, none⟩ = some (.int .i64 q) := by rw [hW2]; go_simp
  have al : w.heap.size < W2.heap.size := by rw [hW2]; simp; omega
  have dl : w.heap.size + 1 < W2.heap.size := by rw [hW2]; simp
  have B := Lib.hid (show Below w.heap.size w W2 by rw [hW2]; exact below_new (below_new (Below.refl _ _) _) _)
  go_enter Tryz.func75, Tryz.ntmps75
  go_upto_region 1 with fail
  rw [← hW2]
  clear hW2
  cases hK1 : cr ((x, y), (u, v)) ((s, t), (p, q)) with
  | true =>
    have K1 := Lib.hid hK1
    clear hK1
    go_wp2_with fail
    refine (crosses_any x y u v s t p q _ HX.out HY.out HU.out HV.out HS.out HT.out HP.out HQ.out).mono ?_
    (try rw [K1.out])
    rintro e wx ⟨rfl, hb⟩
    replace a0 := cell_keep a0 al hb; replace a1 := cell_keep a1 al hb; replace a2 := cell_keep a2 al hb; replace a3 := cell_keep a3 al hb; replace d0 := cell_keep d0 dl hb; replace d1 := cell_keep d1 dl hb; replace d2 := cell_keep d2 dl hb; replace d3 := cell_keep d3 dl hb; replace al := lt_keep al hb; replace dl := lt_keep dl hb; replace B := Lib.hid (below_next B.out hb); clear hb
    go_wp2
    go_ret
    exact ⟨ret_bool (by simp [meetS, K1.out]), B.out⟩
  | false =>
    have K1 := Lib.hid hK1
    clear hK1
    go_wp2_with fail
    refine (crosses_any x y u v s t p q _ HX.out HY.out HU.out HV.out HS.out HT.out HP.out HQ.out).mono ?_
    (try rw [K1.out])
    rintro e wx ⟨rfl, hb⟩
    replace a0 := cell_keep a0 al hb; replace a1 := cell_keep a1 al hb; replace a2 := cell_keep a2 al hb; replace a3 := cell_keep a3 al hb; replace d0 := cell_keep d0 dl hb; replace d1 := cell_keep d1 dl hb; replace d2 := cell_keep d2 dl hb; replace d3 := cell_keep d3 dl hb; replace al := lt_keep al hb; replace dl := lt_keep dl hb; replace B := Lib.hid (below_next B.out hb); clear hb
    cases hK2 : endsS ((x, y), (u, v)) (s, t) with
    | true =>
      have K2 := Lib.hid hK2
      clear hK2
      go_wp2_with fail
      refine (endsAt_any x y u v s t _).mono ?_
      (try rw [K2.out])
      rintro e wx ⟨rfl, hb⟩
      replace a0 := cell_keep a0 al hb; replace a1 := cell_keep a1 al hb; replace a2 := cell_keep a2 al hb; replace a3 := cell_keep a3 al hb; replace d0 := cell_keep d0 dl hb; replace d1 := cell_keep d1 dl hb; replace d2 := cell_keep d2 dl hb; replace d3 := cell_keep d3 dl hb; replace al := lt_keep al hb; replace dl := lt_keep dl hb; replace B := Lib.hid (below_next B.out hb); clear hb
      go_wp2
      go_ret
      exact ⟨ret_bool (by simp [meetS, K1.out, K2.out]), B.out⟩
    | false =>
      have K2 := Lib.hid hK2
      clear hK2
      go_wp2_with fail
      refine (endsAt_any x y u v s t _).mono ?_
      (try rw [K2.out])
      rintro e wx ⟨rfl, hb⟩
      replace a0 := cell_keep a0 al hb; replace a1 := cell_keep a1 al hb; replace a2 := cell_keep a2 al hb; replace a3 := cell_keep a3 al hb; replace d0 := cell_keep d0 dl hb; replace d1 := cell_keep d1 dl hb; replace d2 := cell_keep d2 dl hb; replace d3 := cell_keep d3 dl hb; replace al := lt_keep al hb; replace dl := lt_keep dl hb; replace B := Lib.hid (below_next B.out hb); clear hb
      cases hK3 : endsS ((x, y), (u, v)) (p, q) with
      | true =>
        have K3 := Lib.hid hK3
        clear hK3
        go_wp2_with fail
        refine (endsAt_any x y u v p q _).mono ?_
        (try rw [K3.out])
        rintro e wx ⟨rfl, hb⟩
        replace a0 := cell_keep a0 al hb; replace a1 := cell_keep a1 al hb; replace a2 := cell_keep a2 al hb; replace a3 := cell_keep a3 al hb; replace d0 := cell_keep d0 dl hb; replace d1 := cell_keep d1 dl hb; replace d2 := cell_keep d2 dl hb; replace d3 := cell_keep d3 dl hb; replace al := lt_keep al hb; replace dl := lt_keep dl hb; replace B := Lib.hid (below_next B.out hb); clear hb
        go_wp2
        go_ret
        exact ⟨ret_bool (by simp [meetS, K1.out, K2.out, K3.out]), B.out⟩
      | false =>
        have K3 := Lib.hid hK3
        clear hK3
        go_wp2_with fail
        refine (endsAt_any x y u v p q _).mono ?_
        (try rw [K3.out])
        rintro e wx ⟨rfl, hb⟩
        replace a0 := cell_keep a0 al hb; replace a1 := cell_keep a1 al hb; replace a2 := cell_keep a2 al hb; replace a3 := cell_keep a3 al hb; replace d0 := cell_keep d0 dl hb; replace d1 := cell_keep d1 dl hb; replace d2 := cell_keep d2 dl hb; replace d3 := cell_keep d3 dl hb; replace al := lt_keep al hb; replace dl := lt_keep dl hb; replace B := Lib.hid (below_next B.out hb); clear hb
        go_wp2
        go_ret
        exact ⟨ret_bool (by simp [meetS, K1.out, K2.out, K3.out]), B.out⟩

end Go.Proofs.YtbpgkigoboobeaaGreat
