/-
  Contracts: CountByDistance, the model.
-/
import Derived.Test.YtagdmdjofcjilaaT9b
namespace Go.Proofs.Ytagdmdjofcjilaa
open Go.RowKit

theorem pad_mem {l : List Int} {n : Nat} {v : Int} (h : v ∈ padTo l n) : v = 0 ∨ v ∈ l := by
  rcases List.mem_append.1 h with h | h
  · exact .inr h
  · exact .inl (List.mem_replicate.1 h).2
theorem cnt_bd (D : List Int) : ∀ (k : Nat) (v : Int), v = 0 ∨ v ∈ (D.take k).foldl cntStep [] → 0 ≤ v ∧ v ≤ (k : Int)
  | 0, v, h => by
    rcases h with h | h
    · omega
    · simp at h
  | k + 1, v, h => by
    rcases h with h | h
    · omega
    · cases hx : D[k]? with
      | none =>
        rw [List.take_add_one, hx] at h
        have := cnt_bd D k v (.inr (by simpa using h)); omega
      | some x =>
        rw [take_foldl cntStep hx] at h
        have key : ∀ u, u = 0 ∨ u ∈ (D.take k).foldl cntStep [] → 0 ≤ u ∧ u ≤ (k : Int) := cnt_bd D k
        generalize (D.take k).foldl cntStep [] = O0 at h key
        rw [cntStep] at h
        split at h
        · have := key v (.inr h); omega
        · rw [bump] at h
          rcases List.mem_or_eq_of_mem_set h with h | h
          · have := key v (pad_mem h); omega
          · have h9 : (padTo O0 (x.toNat + 1)).getD x.toNat 0 = 0 ∨ (padTo O0 (x.toNat + 1)).getD x.toNat 0 ∈ O0 := by
              rw [List.getD_eq_getElem?_getD]
              cases he : (padTo O0 (x.toNat + 1))[x.toNat]? with
              | none => exact .inl rfl
              | some u => exact pad_mem (List.mem_of_getElem? he)
            have := key _ h9; omega
def countsV (W H : Int) (xs : List Int) (a b p : Int) : List Int := if onB W H xs a b [p] = true then cntL (distL W H xs a b p) else []

set_option maxRecDepth 100000 in
set_option maxHeartbeats 2000000 in
theorem spec_CountByDistance (W H : Int) (A : Option Addr) (n c : Nat) (xs : List Int) (a b : Int) (p : Int) (w : World) (ha : Rd w A n xs) :
    Calls Try.prog 28 #[brd W H A n c, lpr a b, .int .i64 p] w fun e w' => ∃ A' n' c', e = .returned (.tuple #[.slice A' n' c', .bool (onB W H xs a b [p])]) ∧ OwnI 3 w' w.heap.size A' n' c' (countsV W H xs a b p) ∧ Below w.heap.size w w' := by
  obtain ⟨i0, hi, hz0, hz1, hz2⟩ := info_parts infoI
  have HI := Lib.hid hi; have HZ0 := Lib.hid hz0; have HZ1 := Lib.hid hz1; have HZ2 := Lib.hid hz2
  clear hi hz0 hz1 hz2
  by_cases hoo : onB W H xs a b [p, p] = true
  · have ho := hoo; rw [onB_same] at ho
    have FO := on_facts (onB_one ho).1
    have HP := Lib.hid (onB_one ho).2
    obtain ⟨N, hN⟩ : ∃ N, N = (W * H).toNat := ⟨_, rfl⟩
    rw [← hN] at FO
    have hp0 := (hasB_iff.1 HP.out).1
    rw [FO.wh] at hp0
    obtain ⟨s, rfl⟩ : ∃ s : Nat, p = (s : Int) := ⟨p.toNat, by omega⟩
    have hs : s < N := by omega
    have HF := Lib.hid FO
    have n64 := FO.n.2
    have HO9 := Lib.hid ho
    have hWN : (W * H).toNat = N := hN.symm
    have HWN := Lib.hid hWN
    have hL : farL (leapsL W H xs a b) N (s : Int) = distL W H xs a b (s : Int) := by rw [distL, hN]
    have HL := Lib.hid hL
    clear FO hp0 hN hL hWN
    go_enter Try.func28, Try.ntmps28
    go_wp2_with fail
    refine (faAsked_any _ _ _ _ _ _ _ _ _ _ _ ((ha.alloc _).alloc _)).mono ?_
    rw [hoo]
    rintro e wv ⟨rfl, hb⟩
    have hbx0 := below_box hb
    have a0 : wv.cell? ⟨w.heap.size, 0, none⟩ = some (.int .i64 W) := by simpa using newbox hbx0 0
    have a1 : wv.cell? ⟨w.heap.size, 1, none⟩ = some (.int .i64 H) := by simpa using newbox hbx0 1
    have a2 : wv.cell? ⟨w.heap.size, 2, none⟩ = some (.slice A n c) := by simpa using newbox hbx0 2
    have al : w.heap.size < wv.heap.size := by simpa using newbox_lt hbx0
    have l0 : wv.cell? ⟨w.heap.size + 1, 0, none⟩ = some (.int .i64 a) := by simpa using newbox hb 0
    have l1 : wv.cell? ⟨w.heap.size + 1, 1, none⟩ = some (.int .i64 b) := by simpa using newbox hb 1
    have ll : w.heap.size + 1 < wv.heap.size := by simpa using newbox_lt hb
    have B := Lib.hid (below_box hbx0)
    clear hb hbx0
    go_wp2_with fail
    refine (faFrom_any W H A n c xs a b s N _ (ha.keep B.out) HF.out.g HF.out.wh hs).mono ?_
    rintro e wx ⟨g, rfl, own, hb⟩
    rw [HL.out] at own
    have O := Lib.hid own
    have hog := own.some_ (k := 0) (by omega)
    replace B := Lib.hid (below_next B.out hb)
    have DLEN := Lib.hid own.len
    clear own hb
    have hbd := dist_bd HF.out HP.out
    obtain ⟨D, hD⟩ : ∃ D, D = distL W H xs a b (s : Int) := ⟨_, rfl⟩
    rw [← hD] at O DLEN hbd
    have HDD := Lib.hid hD; have HBD := Lib.hid hbd
    have HC : Hid (∀ k, ((D.take k).foldl cntStep []).length ≤ 65) := Lib.hid (fun k => (cnt_pad (M := 65) (D.take k) [] (fun x hx => by have := hbd x (List.mem_of_mem_take hx); omega) (by simp)).2)
    clear hD hog hbd
    go_wp2
    go_loopw [8, 22] (fun v i wr => ∃ (k n' c' : Nat) (A' : Option Addr), k ≤ N ∧ i = .int .i64 k ∧ v = .slice A' n' c' ∧ OwnI 3 wr wx.heap.size A' n' c' ((D.take k).foldl cntStep []) ∧ Below wx.heap.size wx wr) (fun _ i _ => N - (intOf i).toNat)
    case atStart => exact ⟨0, 0, 0, none, by omega, rfl, rfl, OwnI.none_ _ _ _, Below.refl _ _⟩
    case round =>
      obtain ⟨k, n', c', A', hk, rfl, rfl, hown, hbw⟩ := hrel
      have hbsz := hbw.size
      by_cases hlt : k < N
      · obtain ⟨x, hx⟩ : ∃ x, D[k]? = some x := ⟨_, List.getElem?_eq_getElem (show k < D.length by have := DLEN.out; omega)⟩
        have c0 := (O.out.keep hbw).cell hx
        have hxb := HBD.out x (List.mem_of_getElem? hx)
        have hol := hown.len
        have hC := HC.out k
        have hst := take_foldl cntStep hx []
        have hpb : ∀ v, v = 0 ∨ v ∈ (D.take k).foldl cntStep [] → 0 ≤ v ∧ v ≤ (k : Int) := cnt_bd D k
        obtain ⟨O0, hO0⟩ : ∃ O0, O0 = (D.take k).foldl cntStep [] := ⟨_, rfl⟩
        rw [← hO0] at hown hol hC hst hpb
        have PB := Lib.hid hpb
        have ST := Lib.hid hst; have HO := Lib.hid hown; have HB := Lib.hid hbw
        clear hx hown hbw hst hO0 hpb
        by_cases hneg : x < 0
        · go_wp2
          go_roundw
          case rel => exact ⟨k + 1, n', c', A', by omega, by go_num, rfl, by rw [ST.out, cntStep, if_pos hneg]; exact HO.out, HB.out⟩
          case measure => simp [intOf]; omega
        · obtain ⟨xn, rfl⟩ : ∃ xn : Nat, x = (xn : Int) := ⟨x.toNat, by omega⟩
          have hneg' : decide ((xn : Int) < 0) = false := by simp
          go_wp2
          go_loopw [8] (fun v w2 => ∃ (m c2 : Nat) (A2 : Option Addr), n' ≤ m ∧ m ≤ max n' (xn + 1) ∧ v = .slice A2 m c2 ∧ OwnI 3 w2 wx.heap.size A2 m c2 (padTo O0 m) ∧ Below wx.heap.size wx w2) (fun v _ => match v with | .slice _ m _ => xn + 1 - m | _ => 0)
          case atStart => exact ⟨n', c', A', by omega, by omega, rfl, by rw [padTo_self (by omega)]; exact HO.out, HB.out⟩
          case round =>
            obtain ⟨m, c2, A2, hm1, hm2, rfl, hown, hbw⟩ := hrel
            have hbsz2 := hbw.size
            by_cases hmx : m ≤ xn
            · have HO2 := Lib.hid hown; have HB2 := Lib.hid hbw
              clear hown hbw
              have hmi : (m : Int) ≤ (xn : Int) := by omega
              go_wp2_with (at_builtin; refine wpList_app1 rfl (.tmp 32) (.tmp 33) 22 3 rfl i0 Try.underlying22 HI.out HZ0.out HZ1.out HZ2.out wx.heap.size A2 m c2 (padTo O0 m) 0 rfl HO2.out rfl (by omega) hbsz2 ?_; intro A3 c3 w3 hown3 hb3)
              have HO3 := Lib.hid hown3; have HB3 := Lib.hid (HB2.out.trans hb3)
              clear hown3 hb3
              go_wp2
              go_roundw
              case rel => exact ⟨m + 1, c3, A3, by omega, by omega, rfl, by rw [padTo_succ (by omega)]; exact HO3.out, HB3.out⟩
              case measure => simp; omega
            · have hmi : ¬ (m : Int) ≤ (xn : Int) := by omega
              have hxm : (xn : Int) < (m : Int) := by omega
              have hx0 : (0 : Int) ≤ (xn : Int) := by omega
              have e : padTo O0 m = padTo O0 (xn + 1) := by
                by_cases h : n' ≤ xn + 1
                · rw [show m = xn + 1 by omega]
                · rw [padTo_self (by omega), padTo_self (by omega)]
              rw [e] at hown
              obtain ⟨gb, rfl, hg1, hg2⟩ := hown.some_ (k := 0) (by omega)
              obtain ⟨v, hv⟩ : ∃ v, (padTo O0 (xn + 1))[xn]? = some v := ⟨_, List.getElem?_eq_getElem (by have := hown.len; omega)⟩
              have cv := hown.cell hv
              have fv := hown.frozen xn
              obtain ⟨o1, g1⟩ := hown.stored xn (v + 1)
              have hv65 : 0 ≤ v ∧ v ≤ (k : Int) := PB.out _ (pad_mem (List.mem_of_getElem? hv))
              have HO3 := Lib.hid o1
              have HB3 := Lib.hid (hbw.trans (below_of_grown g1 hbsz2 (fun g h => by injection h with h; omega)))
              have ES : Hid ((padTo O0 (xn + 1)).set xn (v + 1) = (D.take (k + 1)).foldl cntStep []) := Lib.hid (by rw [ST.out, cntStep, if_neg (by omega), bump, Int.toNat_natCast, List.getD_eq_getElem?_getD, hv]; rfl)
              clear hown hbw o1 g1 hv e
              go_wp2
              go_roundw
              case rel => exact ⟨k + 1, m, c2, _, by omega, by go_num, rfl, by rw [← ES.out]; exact HO3.out, HB3.out⟩
              case measure => simp [intOf]; omega
      · obtain rfl : k = N := by omega
        have eL : (D.take k).foldl cntStep [] = countsV W H xs a b (s : Int) := by rw [countsV, if_pos HO9.out, ← HDD.out, List.take_of_length_le (by have := DLEN.out; omega)]; rfl
        rw [eL] at hown
        have HO := Lib.hid (hown.lower B.out.size); have HB := Lib.hid (below_next B.out hbw)
        clear hown hbw eL
        go_wp2
        go_ret2
        exact ⟨_, _, _, by rw [HO9.out]; rfl, HO.out, HB.out⟩
  · have hoo' : onB W H xs a b [p, p] = false := by simpa using hoo
    go_enter Try.func28, Try.ntmps28
    go_wp2_with fail
    refine (faAsked_any _ _ _ _ _ _ _ _ _ _ _ ((ha.alloc _).alloc _)).mono ?_
    rw [hoo']
    rintro e wv ⟨rfl, hb⟩
    have hbx0 := below_box hb
    have a0 : wv.cell? ⟨w.heap.size, 0, none⟩ = some (.int .i64 W) := by simpa using newbox hbx0 0
    have a1 : wv.cell? ⟨w.heap.size, 1, none⟩ = some (.int .i64 H) := by simpa using newbox hbx0 1
    have a2 : wv.cell? ⟨w.heap.size, 2, none⟩ = some (.slice A n c) := by simpa using newbox hbx0 2
    have al : w.heap.size < wv.heap.size := by simpa using newbox_lt hbx0
    have l0 : wv.cell? ⟨w.heap.size + 1, 0, none⟩ = some (.int .i64 a) := by simpa using newbox hb 0
    have l1 : wv.cell? ⟨w.heap.size + 1, 1, none⟩ = some (.int .i64 b) := by simpa using newbox hb 1
    have ll : w.heap.size + 1 < wv.heap.size := by simpa using newbox_lt hb
    have B := Lib.hid (below_box hbx0)
    clear hb hbx0
    go_wp2
    go_ret2
    exact ⟨none, 0, 0, by rw [show onB W H xs a b [p] = false by rw [← onB_same, hoo']]; rfl, by rw [countsV, if_neg (by rw [← onB_same, hoo']; simp)]; exact OwnI.none_ _ _ _, B.out⟩

end Go.Proofs.Ytagdmdjofcjilaa
