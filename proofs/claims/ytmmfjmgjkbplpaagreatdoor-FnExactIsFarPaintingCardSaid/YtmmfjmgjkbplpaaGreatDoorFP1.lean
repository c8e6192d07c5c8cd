/-
  Contracts: the cells with the distances 1 and 2 from one, in the model.
-/
import Derived.Test.YtmmfjmgjkbplpaaGreatDoorE21
import Derived.Maps.AppendAt
import Derived.Maps.RangeWalk
namespace Go.Proofs.YtmmfjmgjkbplpaaGreatDoor
open Go.RowKit

def addN (out : List Int) (z : Int) : List Int := if out.contains z = true then out else out ++ [z]
def addF (c : Int) (out : List Int) (z : Int) : List Int := if z = c then out else addN out z
def nearIn (adj : Int → List Int) (c : Int) (out : List Int) (y : Int) : List Int := (adj y).foldl (addF c) (addN out y)
/-- The cells with the distances 1 and 2. -/
def nearL (adj : Int → List Int) (c : Int) : List Int := (adj c).foldl (nearIn adj c) []
theorem span_F {E : TypeId} {w : World} {lo : Nat} {A : Option Addr} {n c : Nat} {xs : List Int} (h : OwnI E w lo A n c xs) : ∀ a, A = some a → lo ≤ a.block ∧ a.block < w.heap.size := by
  intro a ha
  rcases h.form with ⟨h0, _⟩ | ⟨g, h1, h2, h3, _⟩
  · rw [h0] at ha; cases ha
  · rw [h1] at ha; injection ha with ha; subst ha; exact ⟨h2, h3⟩
theorem low_row {E : TypeId} {w : World} {lo : Nat} {A : Option Addr} {n c : Nat} {xs : List Int} (h : OwnI E w lo A n c xs) : ∀ k, rowOf A = some k → lo ≤ k := by
  intro k hk
  cases hA : A with
  | none => rw [hA] at hk; cases hk
  | some a => rw [hA] at hk; injection hk with hk; rw [← hk]; exact (span_F h a hA).1
/-- append of one number onto a row of the call's own, and which block it leaves changed. -/
theorem wpList_app1r {P : Program} {w : World} {ops : Array Oper} {rest : List Oper} {o : Oper} {a : Act} {Q : Exit → Act → World → Prop} (hgd : o.guard = none) (s x : Operand) (T E : TypeId)
    (ho : o.op = .call { callee := .builtin .append, args := #[s, x], argTypes := #[T, T] }) (i0 : TypeInfo)
    (hT : P.underlying T = some (.slice E)) (hi : P.info? E = some i0) (hz0 : i0.zero = some (.int .i64 0)) (hz1 : i0.size = 1) (hz2 : i0.bytes = 8)
    (lo : Nat) (A : Option Addr) (n c : Nat) (xs : List Int) (q : Int) (hs : a.eval s = .slice A n c) (hown : OwnI E w lo A n c xs) (hx : a.eval x = .slice (some ⟨w.heap.size, 0, none⟩) 1 1)
    (hn : n ≤ 1000000) (hlo : lo ≤ w.heap.size)
    (h : ∀ A' c' w', OwnI E w' lo A' (n + 1) c' (xs ++ [q]) → w.grownBy w' (rowOf A) → (rowOf A' = rowOf A ∨ ∃ k, rowOf A' = some k ∧ w.heap.size ≤ k) → wpList P ops Q rest (a.put o.dst (.slice A' (n + 1) c')) w') :
    wpList P ops Q (o :: rest) a (w.alloc (.cells #[.int .i64 q] E)) := by
  refine wpList_append_own_at (w.alloc (.cells #[.int .i64 q] E)) hgd s x T ho lo E i0 (.int .i64 0) 1 8 hT hi hz0 hz1 hz2 rfl (by decide) (.slice A n c) n (xs.map (Value.int .i64)) hs (World.ownsRow.alloc hown _)
    ⟨w.heap.size, 0, none⟩ 1 1 [.int .i64 q] hx rfl (cell_one_new _ _ _) ?_ (by unfold maxLen; omega) (by omega) (by simp; omega) ?_
  · intro u hu; simp at hu; subst hu; rfl
  · intro v' w' hown' hgrow _ hrow
    have e : xs.map (Value.int .i64) ++ [.int .i64 q] = (xs ++ [q]).map (Value.int .i64) := by simp
    rw [e] at hown'
    obtain ⟨A', c', rfl, hO⟩ := own_form hown'
    have e1 : ∀ (A : Option Addr) (n c : Nat), (Value.slice A n c).ownBlock = rowOf A := fun A n c => by cases A <;> rfl
    rw [e1, e1] at hrow
    rw [e1] at hgrow
    refine h A' c' w' hO (grown_next (grown_of_below (below_new (Below.refl _ _) _) _) hgrow) ?_
    rcases hrow with h1 | h1
    · exact .inl h1
    · exact .inr ⟨_, h1, by simp⟩

set_option maxRecDepth 100000 in
set_option maxHeartbeats 4000000 in
theorem paNear_any (W H : Int) (A : Option Addr) (n c : Nat) (xs : List Int) (a b : Int) (p : Nat) (w : World) (ha : Rd w A n xs) (hg : goodB W H xs = true) (hp : p < 64) :
    Calls Tryz.prog 16 #[brd W H A n c, lpr a b, .int .i64 (p : Int)] w fun e w' => ∃ A' n' c', e = .returned (.slice A' n' c') ∧ OwnI 3 w' w.heap.size A' n' c' (nearL (leapsL W H xs a b) (p : Int)) ∧ Below w.heap.size w w' := by
  have HG := Lib.hid hg
  have HN := Lib.hid (cells_le (goodB_iff.1 hg).1 (goodB_iff.1 hg).2.1)
  obtain ⟨i0, hi, hy0, hy1, hy2⟩ := info_parts infoI
  have HI := Lib.hid hi; have HZ0 := Lib.hid hy0; have HZ1 := Lib.hid hy1; have HZ2 := Lib.hid hy2
  clear hi hy0 hy1 hy2
  obtain ⟨W2, hW2⟩ : ∃ W2, W2 = (w.alloc (.cells #[.int .i64 W, .int .i64 H, .slice A n c] 30)).alloc (.cells #[.int .i64 a, .int .i64 b] 32) := ⟨_, rfl⟩
  have a0 : W2.cell? ⟨w.heap.size, 0, none⟩ = some (.int .i64 W) := by rw [hW2]; go_simp
  have a1 : W2.cell? ⟨w.heap.size, 1, none⟩ = some (.int .i64 H) := by rw [hW2]; go_simp
  have a2 : W2.cell? ⟨w.heap.size, 2, none⟩ = some (.slice A n c) := by rw [hW2]; go_simp
  have l0 : W2.cell? ⟨w.heap.size + 1, 0, none⟩ = some (.int .i64 a) := by rw [hW2]; go_simp
  have l1 : W2.cell? ⟨w.heap.size + 1, 1, none⟩ = some (.int .i64 b) := by rw [hW2]; go_simp
  have hsz : w.heap.size + 2 ≤ W2.heap.size := by rw [hW2]; simp
  have B := Lib.hid (show Below w.heap.size w W2 by rw [hW2]; exact below_new (below_new (Below.refl _ _) _) _)
  have R := Lib.hid (ha.keep B.out)
  have ga : w.heap.size < W2.heap.size := by omega
  have gl : w.heap.size + 1 < W2.heap.size := by omega
  have HPR := Lib.hid (show 0 ≤ (p : Int) ∧ (p : Int) ≤ 64 by omega)
  have HRNG := Lib.hid (show ∀ y ∈ leapsL W H xs a b (p : Int), 0 ≤ y ∧ y ≤ 64 from fun y hy => by
    have h1 := (hasB_iff.1 (cellsL_mem.1 (List.mem_filter.1 hy).1)).1
    have := HN.out
    omega)
  clear hg ha
  go_enter Tryz.func16, Tryz.ntmps16
  go_wp2_with fail
  rw [← hW2]
  clear hW2
  refine (boLeaps_any W H A n c xs a b (p : Int) _ R.out HG.out HPR.out).mono ?_
  rintro e ws ⟨A1, n1, c1, rfl, hst, hb⟩
  replace a0 := cell_keep a0 ga hb; replace a1 := cell_keep a1 ga hb; replace a2 := cell_keep a2 ga hb; replace l0 := cell_keep l0 gl hb; replace l1 := cell_keep l1 gl hb; replace ga := lt_keep ga hb; replace gl := lt_keep gl hb; replace R := Lib.hid (R.out.keep hb)
  have hBs := B.out.size
  replace B := Lib.hid (below_next B.out hb)
  have hss := hb.size
  have ST := Lib.hid hst.rd
  have SL := Lib.hid hst.len
  have n8 : n1 ≤ 64 := by have := leapsL_len64 (W := W) (H := H) (xs := xs) (a := a) (b := b) (q := (p : Int)) HN.out; have := hst.len; omega
  clear hst hb hsz
  go_wp2
  go_loopw [7, 17] (fun v i wr => ∃ (k n4 c4 : Nat) (A4 : Option Addr), k ≤ n1 ∧ i = .int .i64 k ∧ v = .slice A4 n4 c4 ∧ n4 ≤ 65 * k ∧ OwnI 3 wr ws.heap.size A4 n4 c4 (((leapsL W H xs a b (p : Int)).take k).foldl (nearIn (leapsL W H xs a b) (p : Int)) []) ∧ Below ws.heap.size ws wr) (fun _ i _ => n1 - (intOf i).toNat)
  case atStart => exact ⟨0, 0, 0, none, Nat.zero_le _, rfl, rfl, Nat.zero_le _, by rw [List.take_zero]; exact OwnI.none_ _ _ _, Below.refl _ _⟩
  case round =>
    obtain ⟨k, n4, c4, A4, hk, rfl, rfl, hn4, hown, hbw⟩ := hrel
    have HO := Lib.hid hown; have HB := Lib.hid hbw
    have hsw := hbw.size
    by_cases hlt : k < n1
    · obtain ⟨bb, oo, y, rfl, hg1, hx, x0⟩ := ST.out.at_ hlt
      have HX := Lib.hid hx
      have HYR := Lib.hid (HRNG.out y (List.mem_of_getElem? hx))
      replace x0 := cell_keep x0 hg1 hbw
      have b0 := cell_keep a0 ga hbw; have b1 := cell_keep a1 ga hbw; have b2 := cell_keep a2 ga hbw; have m0 := cell_keep l0 gl hbw; have m1 := cell_keep l1 gl hbw; have gb := lt_keep ga hbw; have gm := lt_keep gl hbw
      have RR := Lib.hid (R.out.keep hbw)
      have k0 : (0 : Int) ≤ (k : Int) := by omega
      have kn : (k : Int) < (n1 : Int) := by omega
      obtain ⟨O, hO⟩ : ∃ O, O = ((leapsL W H xs a b (p : Int)).take k).foldl (nearIn (leapsL W H xs a b) (p : Int)) [] := ⟨_, rfl⟩
      rw [← hO] at HO
      have HOO := Lib.hid hO
      have hn9 : n4 ≤ 1000000 := by omega
      clear hown hbw hx hO
      go_wp2_with fail
      refine (l1Has_any _ _ _ _ _ _ HO.out.rd).mono ?_
      by_cases hc : O.contains y = true
      · rw [hc]
        rintro e wq ⟨rfl, hb⟩
        replace b0 := cell_keep b0 gb hb; replace b1 := cell_keep b1 gb hb; replace b2 := cell_keep b2 gb hb; replace m0 := cell_keep m0 gm hb; replace m1 := cell_keep m1 gm hb; replace gb := lt_keep gb hb; replace gm := lt_keep gm hb; replace RR := Lib.hid (RR.out.keep hb)
        have HOQ := Lib.hid (HO.out.keep hb); have HBQ := Lib.hid (HB.out.trans (hb.mono hsw))
        have HOA := Lib.hid (show O = addN (((leapsL W H xs a b (p : Int)).take k).foldl (nearIn (leapsL W H xs a b) (p : Int)) []) y by rw [← HOO.out, addN, if_pos hc])
        clear hb hc HO HB
        have HN4 := Lib.hid (show n4 ≤ 65 * k + 1 by omega)
        go_wp2_with fail
        refine (boLeaps_any W H A n c xs a b y _ RR.out HG.out HYR.out).mono ?_
        rintro e w6 ⟨A3, n3, c3, rfl, own3, hb⟩
        have hsq := HBQ.out.size
        have HL3 := Lib.hid own3.len
        have HRD := Lib.hid own3.rd
        have hn3 : n3 ≤ 64 := by have := leapsL_len64 (W := W) (H := H) (xs := xs) (a := a) (b := b) (q := y) HN.out; have := own3.len; omega
        obtain ⟨row0, hrow0⟩ : ∃ row0, row0 = rowOf A4 := ⟨_, rfl⟩
        have HROW := Lib.hid hrow0.symm
        have HAB := Lib.hid (show ∀ x, A3 = some x → some x.block ≠ row0 from fun x hx e => by
          have h1 := (span_F own3 x hx).1
          rw [hrow0] at e
          cases hA : A4 with
          | none => rw [hA] at e; cases e
          | some g9 => rw [hA] at e; have h2 := (span_F HOQ.out g9 hA).2; have e2 : x.block = g9.block := Option.some.inj e; omega)
        have HRL := Lib.hid (show ∀ q, row0 = some q → ws.heap.size ≤ q from fun q hq => by
          rw [hrow0] at hq
          cases hA : A4 with
          | none => rw [hA] at hq; cases hq
          | some g9 => rw [hA] at hq; have h2 := (span_F HOQ.out g9 hA).1; have e2 : g9.block = q := Option.some.inj hq; omega)
        obtain ⟨O1, hO1⟩ : ∃ O1, O1 = O := ⟨_, rfl⟩
        have HO6 := Lib.hid (show OwnI 3 w6 ws.heap.size A4 n4 c4 O1 by rw [hO1]; exact HOQ.out.keep hb)
        have HO1 := Lib.hid (show O1 = addN (((leapsL W H xs a b (p : Int)).take k).foldl (nearIn (leapsL W H xs a b) (p : Int)) []) y by rw [hO1]; exact HOA.out)
        have HB6 := Lib.hid (HBQ.out.trans (hb.mono hsq))
        clear own3 hb hrow0 hO1 HOQ HBQ HOA b0 b1 b2 m0 m1 gb gm RR
        go_wp2
        go_loopw [7, 34] (fun v i w7 => ∃ (j n5 c5 : Nat) (A5 : Option Addr), j ≤ n3 ∧ i = .int .i64 j ∧ v = .slice A5 n5 c5 ∧ n5 ≤ 65 * k + 1 + j ∧ OwnI 3 w7 ws.heap.size A5 n5 c5 (((leapsL W H xs a b y).take j).foldl (addF (p : Int)) O1) ∧ (rowOf A5 = row0 ∨ ∃ q, rowOf A5 = some q ∧ w6.heap.size ≤ q) ∧ w6.grownBy w7 row0) (fun _ i _ => n3 - (intOf i).toNat)
        case atStart => exact ⟨0, _, _, _, Nat.zero_le _, rfl, rfl, by have := HN4.out; omega, HO6.out, .inl HROW.out, grown_refl _ _⟩
        case round =>
          clear HO6
          obtain ⟨j, n5, c5, A5, hj, rfl, rfl, hn5, ho5, hrow5, hg7⟩ := hrel
          have HO5 := Lib.hid ho5; have HR5 := Lib.hid hrow5; have HG7 := Lib.hid hg7
          have hsz7 := hg7.size
          have HB7 := Lib.hid (HB6.out.grown hg7 HB6.out.size (fun q h => HRL.out q h))
          clear ho5 hrow5
          by_cases hjl : j < n3
          · obtain ⟨b3, o3, z, he3, hg3, hz, z0⟩ := (HRD.out.other hg7 HAB.out).at_ hjl
            have HZ := Lib.hid hz
            subst he3
            have j0 : (0 : Int) ≤ (j : Int) := by omega
            have jn : (j : Int) < (n3 : Int) := by omega
            have hn9 : n5 ≤ 1000000 := by omega
            clear hz hg7
            by_cases hzp : z = (p : Int)
            · have hz1 : (z == (p : Int)) = true := by simpa using hzp
              have hz2 : (z != (p : Int)) = false := by simp [bne, hz1]
              have HZP := Lib.hid hzp
              clear hzp
              go_wp2
              go_roundw
              case rel =>
                refine ⟨j + 1, n5, c5, A5, by omega, by go_num, rfl, by omega, ?_, HR5.out, HG7.out⟩
                rw [List.take_add_one, HZ.out, List.foldl_append]
                show OwnI 3 _ _ _ _ _ (addF (p : Int) _ z)
                rw [addF, if_pos HZP.out]; exact HO5.out
              case measure => simp [intOf]; omega
            · have hz1 : (z == (p : Int)) = false := by simpa using hzp
              have hz2 : (z != (p : Int)) = true := by simp [bne, hz1]
              have HZP := Lib.hid hzp
              clear hzp
              obtain ⟨O5, hO5⟩ : ∃ O5, O5 = ((leapsL W H xs a b y).take j).foldl (addF (p : Int)) O1 := ⟨_, rfl⟩
              rw [← hO5] at HO5
              have HOE := Lib.hid hO5
              clear hO5
              go_wp2_with fail
              refine (l1Has_any _ _ _ _ _ _ HO5.out.rd).mono ?_
              by_cases hc : O5.contains z = true
              · rw [hc]
                rintro e w8 ⟨rfl, hb⟩
                have HO8 := Lib.hid (HO5.out.keep hb); have HG8 := Lib.hid (grown_next HG7.out (grown_of_below hb row0))
                have HC := Lib.hid hc
                clear hb hc
                go_wp2
                go_roundw
                case rel =>
                  refine ⟨j + 1, n5, c5, A5, by omega, by go_num, rfl, by omega, ?_, HR5.out, HG8.out⟩
                  rw [List.take_add_one, HZ.out, List.foldl_append]
                  show OwnI 3 _ _ _ _ _ (addF (p : Int) _ z)
                  rw [← HOE.out, addF, if_neg HZP.out, addN, if_pos HC.out]; exact HO8.out
                case measure => simp [intOf]; omega
              · rw [show O5.contains z = false by simpa using hc]
                rintro e w8 ⟨rfl, hb⟩
                have HO8 := Lib.hid (HO5.out.keep hb); have HG8 := Lib.hid (grown_next HG7.out (grown_of_below hb row0))
                have HC := Lib.hid hc
                have HS8 := Lib.hid (show ws.heap.size ≤ w8.heap.size from Nat.le_trans HB7.out.size hb.size)
                have HS6 := Lib.hid (show w6.heap.size ≤ w8.heap.size from Nat.le_trans hsz7 hb.size)
                clear hb hc
                go_wp2_with (at_builtin; refine wpList_app1r rfl (.tmp 47) (.tmp 49) 22 3 rfl i0 Tryz.underlying22 HI.out HZ0.out HZ1.out HZ2.out ws.heap.size A5 n5 c5 _ z rfl HO8.out rfl hn9 HS8.out ?_; intro A2 c2 w2 hown2 hg2 hr2)
                have HO2 := Lib.hid hown2; have HG2 := Lib.hid hg2; have HR2 := Lib.hid hr2
                clear hown2 hg2 hr2
                go_wp2
                go_roundw
                case rel =>
                  refine ⟨j + 1, n5 + 1, c2, A2, by omega, by go_num, rfl, by omega, ?_, ?_, HG8.out.andThen HG2.out (fun q hq => ?_)⟩
                  · rw [List.take_add_one, HZ.out, List.foldl_append]
                    show OwnI 3 _ _ _ _ _ (addF (p : Int) _ z)
                    rw [← HOE.out, addF, if_neg HZP.out, addN, if_neg HC.out]; exact HO2.out
                  · rcases HR2.out with h | ⟨q, h, h2⟩
                    · rw [h]; exact HR5.out
                    · exact .inr ⟨q, h, Nat.le_trans HS6.out h2⟩
                  · rcases HR5.out with h | ⟨q2, h, h2⟩
                    · exact .inr (by rw [← h]; exact hq)
                    · rw [h] at hq; injection hq with hq; exact .inl (by omega)
                case measure => simp [intOf]; omega
          · have HJ := Lib.hid (show j = n3 by omega)
            have jn : ¬ (j : Int) < (n3 : Int) := by omega
            clear hg7
            go_wp2
            go_roundw
            case rel =>
              refine ⟨k + 1, n5, c5, A5, by omega, by go_num, rfl, by omega, ?_, HB7.out⟩
              rw [List.take_add_one, HX.out, List.foldl_append]
              show OwnI 3 _ _ _ _ _ (nearIn (leapsL W H xs a b) (p : Int) _ y)
              have h9 := HO5.out
              rw [HJ.out, List.take_of_length_le (by have := HL3.out; omega), HO1.out] at h9
              exact h9
            case measure => simp [intOf]; omega
      · rw [show O.contains y = false by simpa using hc]
        rintro e wq0 ⟨rfl, hb⟩
        replace b0 := cell_keep b0 gb hb; replace b1 := cell_keep b1 gb hb; replace b2 := cell_keep b2 gb hb; replace m0 := cell_keep m0 gm hb; replace m1 := cell_keep m1 gm hb; replace gb := lt_keep gb hb; replace gm := lt_keep gm hb; replace RR := Lib.hid (RR.out.keep hb)
        have HO0 := Lib.hid (HO.out.keep hb); have HB0 := Lib.hid (HB.out.trans (hb.mono hsw))
        have HOA := Lib.hid (show O ++ [y] = addN (((leapsL W H xs a b (p : Int)).take k).foldl (nearIn (leapsL W H xs a b) (p : Int)) []) y by rw [← HOO.out, addN, if_neg hc])
        have HS0 := Lib.hid HB0.out.size
        have HGB := Lib.hid (show w.heap.size + 1 < ws.heap.size ∧ w.heap.size < ws.heap.size from ⟨gl, ga⟩)
        clear hb hc HO HB
        go_upto_region 7 with (at_builtin; refine wpList_app1r rfl (.tmp 25) (.tmp 27) 22 3 rfl i0 Tryz.underlying22 HI.out HZ0.out HZ1.out HZ2.out ws.heap.size A4 n4 c4 _ y rfl HO0.out rfl hn9 HS0.out ?_; intro A2 c2 wq hown2 hg2 hr2)
        have hlow := low_row HO0.out
        have HOQ := Lib.hid hown2; have HBQ := Lib.hid (HB0.out.grown hg2 HB0.out.size hlow)
        have hne0 : some w.heap.size ≠ rowOf A4 := fun e => by have := hlow _ e.symm; have := HGB.out; omega
        have hne1 : some (w.heap.size + 1) ≠ rowOf A4 := fun e => by have := hlow _ e.symm; have := HGB.out; omega
        replace b0 := hg2.cell b0 hne0; replace b1 := hg2.cell b1 hne0; replace b2 := hg2.cell b2 hne0; replace m0 := hg2.cell m0 hne1; replace m1 := hg2.cell m1 hne1
        replace gb := Nat.lt_of_lt_of_le gb hg2.size; replace gm := Nat.lt_of_lt_of_le gm hg2.size
        replace RR := Lib.hid ((R.out.keep (HBQ.out)))
        clear hown2 hg2 hr2 hlow hne0 hne1
        have HN4 := Lib.hid (show (n4 + 1) ≤ 65 * k + 1 by omega)
        go_wp2_with fail
        refine (boLeaps_any W H A n c xs a b y _ RR.out HG.out HYR.out).mono ?_
        rintro e w6 ⟨A3, n3, c3, rfl, own3, hb⟩
        have hsq := HBQ.out.size
        have HL3 := Lib.hid own3.len
        have HRD := Lib.hid own3.rd
        have hn3 : n3 ≤ 64 := by have := leapsL_len64 (W := W) (H := H) (xs := xs) (a := a) (b := b) (q := y) HN.out; have := own3.len; omega
        obtain ⟨row0, hrow0⟩ : ∃ row0, row0 = rowOf A2 := ⟨_, rfl⟩
        have HROW := Lib.hid hrow0.symm
        have HAB := Lib.hid (show ∀ x, A3 = some x → some x.block ≠ row0 from fun x hx e => by
          have h1 := (span_F own3 x hx).1
          rw [hrow0] at e
          cases hA : A2 with
          | none => rw [hA] at e; cases e
          | some g9 => rw [hA] at e; have h2 := (span_F HOQ.out g9 hA).2; have e2 : x.block = g9.block := Option.some.inj e; omega)
        have HRL := Lib.hid (show ∀ q, row0 = some q → ws.heap.size ≤ q from fun q hq => by
          rw [hrow0] at hq
          cases hA : A2 with
          | none => rw [hA] at hq; cases hq
          | some g9 => rw [hA] at hq; have h2 := (span_F HOQ.out g9 hA).1; have e2 : g9.block = q := Option.some.inj hq; omega)
        obtain ⟨O1, hO1⟩ : ∃ O1, O1 = (O ++ [y]) := ⟨_, rfl⟩
        have HO6 := Lib.hid (show OwnI 3 w6 ws.heap.size A2 (n4 + 1) c2 O1 by rw [hO1]; exact HOQ.out.keep hb)
        have HO1 := Lib.hid (show O1 = addN (((leapsL W H xs a b (p : Int)).take k).foldl (nearIn (leapsL W H xs a b) (p : Int)) []) y by rw [hO1]; exact HOA.out)
        have HB6 := Lib.hid (HBQ.out.trans (hb.mono hsq))
        clear own3 hb hrow0 hO1 HOQ HBQ HOA b0 b1 b2 m0 m1 gb gm RR
        go_wp2
        go_loopw [7, 34] (fun v i w7 => ∃ (j n5 c5 : Nat) (A5 : Option Addr), j ≤ n3 ∧ i = .int .i64 j ∧ v = .slice A5 n5 c5 ∧ n5 ≤ 65 * k + 1 + j ∧ OwnI 3 w7 ws.heap.size A5 n5 c5 (((leapsL W H xs a b y).take j).foldl (addF (p : Int)) O1) ∧ (rowOf A5 = row0 ∨ ∃ q, rowOf A5 = some q ∧ w6.heap.size ≤ q) ∧ w6.grownBy w7 row0) (fun _ i _ => n3 - (intOf i).toNat)
        case atStart => exact ⟨0, _, _, _, Nat.zero_le _, rfl, rfl, by have := HN4.out; omega, HO6.out, .inl HROW.out, grown_refl _ _⟩
        case round =>
          clear HO6
          obtain ⟨j, n5, c5, A5, hj, rfl, rfl, hn5, ho5, hrow5, hg7⟩ := hrel
          have HO5 := Lib.hid ho5; have HR5 := Lib.hid hrow5; have HG7 := Lib.hid hg7
          have hsz7 := hg7.size
          have HB7 := Lib.hid (HB6.out.grown hg7 HB6.out.size (fun q h => HRL.out q h))
          clear ho5 hrow5
          by_cases hjl : j < n3
          · obtain ⟨b3, o3, z, he3, hg3, hz, z0⟩ := (HRD.out.other hg7 HAB.out).at_ hjl
            have HZ := Lib.hid hz
            subst he3
            have j0 : (0 : Int) ≤ (j : Int) := by omega
            have jn : (j : Int) < (n3 : Int) := by omega
            have hn9 : n5 ≤ 1000000 := by omega
            clear hz hg7
            by_cases hzp : z = (p : Int)
            · have hz1 : (z == (p : Int)) = true := by simpa using hzp
              have hz2 : (z != (p : Int)) = false := by simp [bne, hz1]
              have HZP := Lib.hid hzp
              clear hzp
              go_wp2
              go_roundw
              case rel =>
                refine ⟨j + 1, n5, c5, A5, by omega, by go_num, rfl, by omega, ?_, HR5.out, HG7.out⟩
                rw [List.take_add_one, HZ.out, List.foldl_append]
                show OwnI 3 _ _ _ _ _ (addF (p : Int) _ z)
                rw [addF, if_pos HZP.out]; exact HO5.out
              case measure => simp [intOf]; omega
            · have hz1 : (z == (p : Int)) = false := by simpa using hzp
              have hz2 : (z != (p : Int)) = true := by simp [bne, hz1]
              have HZP := Lib.hid hzp
              clear hzp
              obtain ⟨O5, hO5⟩ : ∃ O5, O5 = ((leapsL W H xs a b y).take j).foldl (addF (p : Int)) O1 := ⟨_, rfl⟩
              rw [← hO5] at HO5
              have HOE := Lib.hid hO5
              clear hO5
              go_wp2_with fail
              refine (l1Has_any _ _ _ _ _ _ HO5.out.rd).mono ?_
              by_cases hc : O5.contains z = true
              · rw [hc]
                rintro e w8 ⟨rfl, hb⟩
                have HO8 := Lib.hid (HO5.out.keep hb); have HG8 := Lib.hid (grown_next HG7.out (grown_of_below hb row0))
                have HC := Lib.hid hc
                clear hb hc
                go_wp2
                go_roundw
                case rel =>
                  refine ⟨j + 1, n5, c5, A5, by omega, by go_num, rfl, by omega, ?_, HR5.out, HG8.out⟩
                  rw [List.take_add_one, HZ.out, List.foldl_append]
                  show OwnI 3 _ _ _ _ _ (addF (p : Int) _ z)
                  rw [← HOE.out, addF, if_neg HZP.out, addN, if_pos HC.out]; exact HO8.out
                case measure => simp [intOf]; omega
              · rw [show O5.contains z = false by simpa using hc]
                rintro e w8 ⟨rfl, hb⟩
                have HO8 := Lib.hid (HO5.out.keep hb); have HG8 := Lib.hid (grown_next HG7.out (grown_of_below hb row0))
                have HC := Lib.hid hc
                have HS8 := Lib.hid (show ws.heap.size ≤ w8.heap.size from Nat.le_trans HB7.out.size hb.size)
                have HS6 := Lib.hid (show w6.heap.size ≤ w8.heap.size from Nat.le_trans hsz7 hb.size)
                clear hb hc
                go_wp2_with (at_builtin; refine wpList_app1r rfl (.tmp 47) (.tmp 49) 22 3 rfl i0 Tryz.underlying22 HI.out HZ0.out HZ1.out HZ2.out ws.heap.size A5 n5 c5 _ z rfl HO8.out rfl hn9 HS8.out ?_; intro A2 c2 w2 hown2 hg2 hr2)
                have HO2 := Lib.hid hown2; have HG2 := Lib.hid hg2; have HR2 := Lib.hid hr2
                clear hown2 hg2 hr2
                go_wp2
                go_roundw
                case rel =>
                  refine ⟨j + 1, n5 + 1, c2, A2, by omega, by go_num, rfl, by omega, ?_, ?_, HG8.out.andThen HG2.out (fun q hq => ?_)⟩
                  · rw [List.take_add_one, HZ.out, List.foldl_append]
                    show OwnI 3 _ _ _ _ _ (addF (p : Int) _ z)
                    rw [← HOE.out, addF, if_neg HZP.out, addN, if_neg HC.out]; exact HO2.out
                  · rcases HR2.out with h | ⟨q, h, h2⟩
                    · rw [h]; exact HR5.out
                    · exact .inr ⟨q, h, Nat.le_trans HS6.out h2⟩
                  · rcases HR5.out with h | ⟨q2, h, h2⟩
                    · exact .inr (by rw [← h]; exact hq)
                    · rw [h] at hq; injection hq with hq; exact .inl (by omega)
                case measure => simp [intOf]; omega
          · have HJ := Lib.hid (show j = n3 by omega)
            have jn : ¬ (j : Int) < (n3 : Int) := by omega
            clear hg7
            go_wp2
            go_roundw
            case rel =>
              refine ⟨k + 1, n5, c5, A5, by omega, by go_num, rfl, by omega, ?_, HB7.out⟩
              rw [List.take_add_one, HX.out, List.foldl_append]
              show OwnI 3 _ _ _ _ _ (nearIn (leapsL W H xs a b) (p : Int) _ y)
              have h9 := HO5.out
              rw [HJ.out, List.take_of_length_le (by have := HL3.out; omega), HO1.out] at h9
              exact h9
            case measure => simp [intOf]; omega
    · have HK := Lib.hid (show k = n1 by omega)
      have kn : ¬ (k : Int) < (n1 : Int) := by omega
      clear hown hbw
      go_wp2
      go_ret
      refine ⟨A4, n4, c4, rfl, ?_, B.out.trans (HB.out.mono (by omega))⟩
      have h9 := HO.out
      rw [HK.out, List.take_of_length_le (by have := SL.out; omega)] at h9
      exact h9.lower (by omega)

end Go.Proofs.YtmmfjmgjkbplpaaGreatDoor
