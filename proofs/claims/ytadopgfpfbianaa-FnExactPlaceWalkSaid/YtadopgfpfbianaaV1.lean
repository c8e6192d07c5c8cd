/-
  Contracts: StepsOf.
  Contracts: StepsOf.
-/
import Derived.Test.YtadopgfpfbianaaP6
import Derived.Test.YtadopgfpfbianaaS4
namespace Go.Proofs.Ytadopgfpfbianaa
open Go.RowKit

def pairL (p : Int × Int) : List Int := [p.1, p.2]
def stepsRow (a b x : Int) (j : Nat) : List (Int × Int) := (((List.range j).map fun i : Nat => (i : Int) - b).filter (stepB a b x)).map fun y => (x, y)
def stepsTo (a b : Int) (i : Nat) : List (Int × Int) := ((List.range i).map fun i : Nat => (i : Int) - b).flatMap fun x => stepsRow a b x (2 * b + 1).toNat
def stepsV (a b : Int) : List (List Int) := if leaperB a b = true then (stepsL a b).map pairL else []
theorem stepsTo_all (a b : Int) : stepsTo a b (2 * b + 1).toNat = stepsL a b := rfl
theorem stepsTo_succ (a b : Int) (i : Nat) : stepsTo a b (i + 1) = stepsTo a b i ++ stepsRow a b ((i : Int) - b) (2 * b + 1).toNat := by
  rw [stepsTo, List.range_succ, List.map_append, List.flatMap_append]; simp [stepsTo]
theorem stepsRow_yes {a b x : Int} {j : Nat} (h : stepB a b x ((j : Int) - b) = true) : stepsRow a b x (j + 1) = stepsRow a b x j ++ [(x, (j : Int) - b)] := by
  rw [stepsRow, List.range_succ, List.map_append, List.filter_append, List.map_append]; simp [stepsRow, h]
theorem stepsRow_no {a b x : Int} {j : Nat} (h : stepB a b x ((j : Int) - b) = false) : stepsRow a b x (j + 1) = stepsRow a b x j := by
  rw [stepsRow, List.range_succ, List.map_append, List.filter_append, List.map_append]; simp [stepsRow, h]
theorem stepsRow_len (a b x : Int) (j : Nat) : (stepsRow a b x j).length ≤ j := by
  have := List.length_filter_le (stepB a b x) ((List.range j).map fun i : Nat => (i : Int) - b)
  rw [stepsRow, List.length_map]
  simpa using this
theorem stepsTo_len (a b : Int) : ∀ i, (stepsTo a b i).length ≤ i * (2 * b + 1).toNat
  | 0 => by simp [stepsTo]
  | i + 1 => by
    have := stepsTo_len a b i
    have := stepsRow_len a b ((i : Int) - b) (2 * b + 1).toNat
    rw [stepsTo_succ, List.length_append, Nat.add_mul, Nat.one_mul]; omega
def intOf2 : Value → Int
  | .int _ n => n
  | _ => 0
theorem below_new2 {lo : Nat} {w : World} {o : Obj} (h : lo ≤ w.heap.size) : Below lo w (w.alloc o) := (Below.refl _ _).alloc h o
theorem wpList_appS2 {ops : Array Oper} {rest : List Oper} {o : Oper} {a : Act} {Q : Exit → Act → World → Prop} {w : World} (gx : Nat) (hgx : gx = w.heap.size) (hgd : o.guard = none) (s x : Operand)
    (ho : o.op = .call { callee := .builtin .append, args := #[s, x], argTypes := #[102, 102] }) (lo top : Nat) (A : Option Addr) (n c : Nat) (ps : List (List Int)) (A3 : Option Addr) (n3 c3 : Nat) (p : List Int)
    (hs : a.eval s = .slice A n c) (hown : PartsAt w lo top A n c ps) (hp : OwnI 3 w lo A3 n3 c3 p) (hpn : ∀ y, A3 = some y → top ≤ y.block) (htop : top ≤ w.heap.size)
    (hx : a.eval x = .slice (some ⟨gx, 0, none⟩) 1 1) (hn : n ≤ 100000) (hlo : lo ≤ w.heap.size)
    (h : ∀ A' c' w', PartsAt w' lo w.heap.size A' (n + 1) c' (ps ++ [p]) → Below lo w w' → wpList Try.prog ops Q rest (a.put o.dst (.slice A' (n + 1) c')) w') :
    wpList Try.prog ops Q (o :: rest) a (w.alloc (.cells #[.slice A3 n3 c3] 22)) := by
  subst hgx
  exact wpList_appS hgd s x ho lo top A n c ps A3 n3 c3 p hs hown hp hpn htop hx hn hlo (fun A' c' w' h1 h2 _ _ _ => h A' c' w' h1 h2)
/-- A row of two ints just laid. -/
theorem own_two (w : World) (x y : Int) (lo : Nat) (h : lo ≤ w.heap.size) : OwnI 3 (w.alloc (.cells #[.int .i64 x, .int .i64 y] 3)) lo (some ⟨w.heap.size, 0, none⟩) 2 2 [x, y] :=
  World.ownsRow_lit (base := lo) (e := 3) w (#[.int .i64 x, .int .i64 y] : Array Value) 2 (size := 1) h (by decide) rfl
theorem stepsV_small (a b : Int) : (stepsV a b).length ≤ 64 ∧ ∀ p ∈ stepsV a b, p.length ≤ 64 := by
  unfold stepsV
  split
  · rename_i h
    refine ⟨by rw [List.length_map]; have := stepsL_len h; omega, fun p hp => ?_⟩
    obtain ⟨q, _, rfl⟩ := List.mem_map.1 hp
    simp [pairL]
  · exact ⟨by simp, fun p hp => by simp at hp⟩

set_option maxRecDepth 100000 in
set_option maxHeartbeats 4000000 in
theorem boSteps_any (a b : Int) (w : World) (hl : leaperB a b = true) :
    Calls Try.prog 85 #[lpr a b] w fun e w' => ∃ A' n' c' top, e = .returned (.slice A' n' c') ∧ PartsAt w' w.heap.size top A' n' c' ((stepsL a b).map pairL) ∧ Below w.heap.size w w' := by
  obtain ⟨b1, b2, b3, b4⟩ := leaperB_iff.1 hl
  obtain ⟨M, hM⟩ : ∃ M : Nat, (M : Int) = 2 * b + 1 := ⟨(2 * b + 1).toNat, by omega⟩
  have hMn : (2 * b + 1).toNat = M := by omega
  have HMN := Lib.hid hMn; have HM := Lib.hid hM
  have hM11 : M ≤ 11 := by omega
  clear hM hMn hl
  obtain ⟨W2, hW2⟩ : ∃ W2, W2 = w.alloc (.cells #[.int .i64 a, .int .i64 b] 26) := ⟨_, rfl⟩
  have l0 : W2.cell? ⟨w.heap.size, 0, none⟩ = some (.int .i64 a) := by rw [hW2]; go_simp
  have l1 : W2.cell? ⟨w.heap.size, 1, none⟩ = some (.int .i64 b) := by rw [hW2]; go_simp
  have hsz : W2.heap.size = w.heap.size + 1 := by rw [hW2]; simp
  have B := Lib.hid (show Below w.heap.size w W2 by rw [hW2]; exact below_new (Below.refl _ _) _)
  have ll : w.heap.size < W2.heap.size := by omega
  have HSZ := Lib.hid hsz
  clear hsz
  go_enter Try.func85, Try.ntmps85
  go_wp2
  rw [← hW2]
  clear hW2
  go_loopw [3, 4] (fun v u wr => ∃ (i n' c' top : Nat) (A' : Option Addr), i ≤ M ∧ u = .int .i64 ((i : Int) - b) ∧ v = .slice A' n' c' ∧ PartsAt wr W2.heap.size top A' n' c' ((stepsTo a b i).map pairL) ∧ top ≤ wr.heap.size ∧ Below W2.heap.size W2 wr) (fun _ u _ => (b + 1 - (intOf2 u)).toNat)
  case atStart => exact ⟨0, 0, 0, 0, none, by omega, by rw [show ((0 : Nat) : Int) - b = -b by omega], rfl, PartsAt.none_ _ _ _, by omega, Below.refl _ _⟩
  case round =>
    obtain ⟨i, n', c', top, A', hi, rfl, rfl, hpa, htop, hbw⟩ := hrel
    have m0 := cell_keep l0 ll hbw; have m1 := cell_keep l1 ll hbw
    have PA := Lib.hid hpa; have HB := Lib.hid hbw
    have hxi : IntKind.i64.wrap ((i : Int) - b + 1) = (i : Int) - b + 1 := IntWalk.i64_in _ (by omega)
    by_cases hlt : i < M
    · have hxb : (i : Int) - b ≤ b := by have := HM.out; omega
      obtain ⟨x, hx⟩ : ∃ x, x = (i : Int) - b := ⟨_, rfl⟩
      rw [← hx] at hxi hxb ⊢
      have HX := Lib.hid hx
      have hxlo : -5 ≤ x ∧ x ≤ 5 := by omega
      have hbn : IntKind.i64.wrap (-b) = -b := IntWalk.i64_in _ (by omega)
      clear hpa hbw hx
      go_wp2
      go_loopw [3, 5] (fun v u w2 => ∃ (j m c2 top2 : Nat) (A2 : Option Addr), j ≤ M ∧ u = .int .i64 ((j : Int) - b) ∧ v = .slice A2 m c2 ∧ PartsAt w2 W2.heap.size top2 A2 m c2 ((stepsTo a b i ++ stepsRow a b x j).map pairL) ∧ top2 ≤ w2.heap.size ∧ Below W2.heap.size W2 w2) (fun _ u _ => (b + 1 - (intOf2 u)).toNat)
      case atStart => exact ⟨0, n', c', top, A', by omega, by rw [show ((0 : Nat) : Int) - b = -b by omega], rfl, by rw [show stepsRow a b x 0 = [] from rfl, List.append_nil]; exact PA.out, htop, HB.out⟩
      case round =>
        clear PA HB htop m0 m1
        obtain ⟨j, m, c2, top2, A2, hj, rfl, rfl, hpa, htop2, hbw⟩ := hrel
        have m0 := cell_keep l0 ll hbw; have m1 := cell_keep l1 ll hbw
        have hm : m ≤ 1000 := by
          have h1 := hpa.len
          rw [List.length_map, List.length_append] at h1
          have h2 := stepsTo_len a b i
          have h3 := stepsRow_len a b x j
          rw [HMN.out] at h2
          have h4 : i * M ≤ 11 * 11 := Nat.mul_le_mul (by omega) hM11
          omega
        have PA := Lib.hid hpa; have HB := Lib.hid hbw
        have hyi : IntKind.i64.wrap ((j : Int) - b + 1) = (j : Int) - b + 1 := IntWalk.i64_in _ (by omega)
        by_cases hjt : j < M
        · have hyb : (j : Int) - b ≤ b := by have := HM.out; omega
          have hyes : stepB a b x ((j : Int) - b) = true → stepsRow a b x (j + 1) = stepsRow a b x j ++ [(x, (j : Int) - b)] := stepsRow_yes
          have hno : stepB a b x ((j : Int) - b) = false → stepsRow a b x (j + 1) = stepsRow a b x j := stepsRow_no
          have hst : stepB a b x ((j : Int) - b) = decide ((absV x = a ∧ absV ((j : Int) - b) = b) ∨ (absV x = b ∧ absV ((j : Int) - b) = a)) := rfl
          obtain ⟨y, hy⟩ : ∃ y, y = (j : Int) - b := ⟨_, rfl⟩
          rw [← hy] at hyi hyb hyes hno hst ⊢
          have HY := Lib.hid hy
          have hylo : -5 ≤ y ∧ y ≤ 5 := by omega
          have HYES := Lib.hid hyes; have HNO := Lib.hid hno
          have hbsz := hbw.size
          clear hpa hbw hy hyes hno
          go_wp2_with fail
          refine (l1Abs_any x _ (by omega) (by omega)).mono ?_
          rintro e w9 ⟨rfl, rfl⟩
          go_wp2_with fail
          refine (l1Abs_any y _ (by omega) (by omega)).mono ?_
          rintro e w9 ⟨rfl, rfl⟩
          generalize absV x = u at hst ⊢
          generalize absV y = v at hst ⊢
          have HST := Lib.hid hst
          have PA9 := Lib.hid (PA.out.keep (below_new (Below.refl _ _) (.cells #[.int .i64 x, .int .i64 y] 3)))
          have OW9 := Lib.hid (own_two wr x y W2.heap.size (by omega))
          have HPN : Hid (∀ z, (some ⟨wr.heap.size, 0, none⟩ : Option Addr) = some z → top2 ≤ z.block) := Lib.hid (fun z hz => by injection hz with hz; rw [← hz]; exact htop2)
          have htop9 : top2 ≤ (wr.alloc (.cells #[.int .i64 x, .int .i64 y] 3)).heap.size := by simp; omega
          have hlo9 : W2.heap.size ≤ (wr.alloc (.cells #[.int .i64 x, .int .i64 y] 3)).heap.size := by simp; omega
          have hlo8 : W2.heap.size ≤ wr.heap.size := by omega
          clear hst
          by_cases h0 : u = a
          · have e0 : (u == a) = true := by simpa using h0
            by_cases h1 : v = b
            · have e1 : (v == b) = true := by simpa using h1
              by_cases h2 : u = b
              · have e2 : (u == b) = true := by simpa using h2
                by_cases h3 : v = a
                · have e3 : (v == a) = true := by simpa using h3
                  have hs : stepB a b x y = true := by rw [HST.out, decide_eq_true_eq]; omega
                  have hE := HYES.out hs
                  have HE := Lib.hid hE
                  clear hE hs h0 h1 h2 h3
                  go_wp2_with (at_builtin; refine wpList_appS2 (wr.heap.size + 1) (by simp) rfl (.tmp 52) (.tmp 56) rfl W2.heap.size top2 A2 m c2 _ (some ⟨wr.heap.size, 0, none⟩) 2 2 [x, y] rfl PA9.out OW9.out HPN.out htop9 rfl (by omega) hlo9 ?_; intro A7 c7 w7 hpa7 hb7)
                  have PA7 := Lib.hid hpa7
                  have HB7 := Lib.hid (HB.out.trans ((below_new2 hlo8).trans hb7))
                  have hs7 := hb7.size
                  clear hpa7 hb7
                  go_wp2
                  go_roundw
                  case rel => exact ⟨j + 1, m + 1, c7, _, A7, by omega, by rw [show ((j + 1 : Nat) : Int) - b = y + 1 by have := HY.out; omega], rfl, by rw [HE.out, ← List.append_assoc, List.map_append]; exact PA7.out, hs7, HB7.out⟩
                  case measure => simp [intOf2]; omega
                · have e3 : (v == a) = false := by simpa using h3
                  have hs : stepB a b x y = true := by rw [HST.out, decide_eq_true_eq]; omega
                  have hE := HYES.out hs
                  have HE := Lib.hid hE
                  clear hE hs h0 h1 h2 h3
                  go_wp2_with (at_builtin; refine wpList_appS2 (wr.heap.size + 1) (by simp) rfl (.tmp 52) (.tmp 56) rfl W2.heap.size top2 A2 m c2 _ (some ⟨wr.heap.size, 0, none⟩) 2 2 [x, y] rfl PA9.out OW9.out HPN.out htop9 rfl (by omega) hlo9 ?_; intro A7 c7 w7 hpa7 hb7)
                  have PA7 := Lib.hid hpa7
                  have HB7 := Lib.hid (HB.out.trans ((below_new2 hlo8).trans hb7))
                  have hs7 := hb7.size
                  clear hpa7 hb7
                  go_wp2
                  go_roundw
                  case rel => exact ⟨j + 1, m + 1, c7, _, A7, by omega, by rw [show ((j + 1 : Nat) : Int) - b = y + 1 by have := HY.out; omega], rfl, by rw [HE.out, ← List.append_assoc, List.map_append]; exact PA7.out, hs7, HB7.out⟩
                  case measure => simp [intOf2]; omega
              · have e2 : (u == b) = false := by simpa using h2
                by_cases h3 : v = a
                · have e3 : (v == a) = true := by simpa using h3
                  have hs : stepB a b x y = true := by rw [HST.out, decide_eq_true_eq]; omega
                  have hE := HYES.out hs
                  have HE := Lib.hid hE
                  clear hE hs h0 h1 h2 h3
                  go_wp2_with (at_builtin; refine wpList_appS2 (wr.heap.size + 1) (by simp) rfl (.tmp 52) (.tmp 56) rfl W2.heap.size top2 A2 m c2 _ (some ⟨wr.heap.size, 0, none⟩) 2 2 [x, y] rfl PA9.out OW9.out HPN.out htop9 rfl (by omega) hlo9 ?_; intro A7 c7 w7 hpa7 hb7)
                  have PA7 := Lib.hid hpa7
                  have HB7 := Lib.hid (HB.out.trans ((below_new2 hlo8).trans hb7))
                  have hs7 := hb7.size
                  clear hpa7 hb7
                  go_wp2
                  go_roundw
                  case rel => exact ⟨j + 1, m + 1, c7, _, A7, by omega, by rw [show ((j + 1 : Nat) : Int) - b = y + 1 by have := HY.out; omega], rfl, by rw [HE.out, ← List.append_assoc, List.map_append]; exact PA7.out, hs7, HB7.out⟩
                  case measure => simp [intOf2]; omega
                · have e3 : (v == a) = false := by simpa using h3
                  have hs : stepB a b x y = true := by rw [HST.out, decide_eq_true_eq]; omega
                  have hE := HYES.out hs
                  have HE := Lib.hid hE
                  clear hE hs h0 h1 h2 h3
                  go_wp2_with (at_builtin; refine wpList_appS2 (wr.heap.size + 1) (by simp) rfl (.tmp 52) (.tmp 56) rfl W2.heap.size top2 A2 m c2 _ (some ⟨wr.heap.size, 0, none⟩) 2 2 [x, y] rfl PA9.out OW9.out HPN.out htop9 rfl (by omega) hlo9 ?_; intro A7 c7 w7 hpa7 hb7)
                  have PA7 := Lib.hid hpa7
                  have HB7 := Lib.hid (HB.out.trans ((below_new2 hlo8).trans hb7))
                  have hs7 := hb7.size
                  clear hpa7 hb7
                  go_wp2
                  go_roundw
                  case rel => exact ⟨j + 1, m + 1, c7, _, A7, by omega, by rw [show ((j + 1 : Nat) : Int) - b = y + 1 by have := HY.out; omega], rfl, by rw [HE.out, ← List.append_assoc, List.map_append]; exact PA7.out, hs7, HB7.out⟩
                  case measure => simp [intOf2]; omega
            · have e1 : (v == b) = false := by simpa using h1
              by_cases h2 : u = b
              · have e2 : (u == b) = true := by simpa using h2
                by_cases h3 : v = a
                · have e3 : (v == a) = true := by simpa using h3
                  have hs : stepB a b x y = true := by rw [HST.out, decide_eq_true_eq]; omega
                  have hE := HYES.out hs
                  have HE := Lib.hid hE
                  clear hE hs h0 h1 h2 h3
                  go_wp2_with (at_builtin; refine wpList_appS2 (wr.heap.size + 1) (by simp) rfl (.tmp 52) (.tmp 56) rfl W2.heap.size top2 A2 m c2 _ (some ⟨wr.heap.size, 0, none⟩) 2 2 [x, y] rfl PA9.out OW9.out HPN.out htop9 rfl (by omega) hlo9 ?_; intro A7 c7 w7 hpa7 hb7)
                  have PA7 := Lib.hid hpa7
                  have HB7 := Lib.hid (HB.out.trans ((below_new2 hlo8).trans hb7))
                  have hs7 := hb7.size
                  clear hpa7 hb7
                  go_wp2
                  go_roundw
                  case rel => exact ⟨j + 1, m + 1, c7, _, A7, by omega, by rw [show ((j + 1 : Nat) : Int) - b = y + 1 by have := HY.out; omega], rfl, by rw [HE.out, ← List.append_assoc, List.map_append]; exact PA7.out, hs7, HB7.out⟩
                  case measure => simp [intOf2]; omega
                · have e3 : (v == a) = false := by simpa using h3
                  have hs : stepB a b x y = false := by rw [HST.out, decide_eq_false_iff_not]; omega
                  have hE := HNO.out hs
                  have HE := Lib.hid hE
                  clear hE hs h0 h1 h2 h3
                  go_wp2
                  go_roundw
                  case rel => exact ⟨j + 1, m, c2, top2, A2, by omega, by rw [show ((j + 1 : Nat) : Int) - b = y + 1 by have := HY.out; omega], rfl, by rw [HE.out]; exact PA.out, htop2, HB.out⟩
                  case measure => simp [intOf2]; omega
              · have e2 : (u == b) = false := by simpa using h2
                by_cases h3 : v = a
                · have e3 : (v == a) = true := by simpa using h3
                  have hs : stepB a b x y = false := by rw [HST.out, decide_eq_false_iff_not]; omega
                  have hE := HNO.out hs
                  have HE := Lib.hid hE
                  clear hE hs h0 h1 h2 h3
                  go_wp2
                  go_roundw
                  case rel => exact ⟨j + 1, m, c2, top2, A2, by omega, by rw [show ((j + 1 : Nat) : Int) - b = y + 1 by have := HY.out; omega], rfl, by rw [HE.out]; exact PA.out, htop2, HB.out⟩
                  case measure => simp [intOf2]; omega
                · have e3 : (v == a) = false := by simpa using h3
                  have hs : stepB a b x y = false := by rw [HST.out, decide_eq_false_iff_not]; omega
                  have hE := HNO.out hs
                  have HE := Lib.hid hE
                  clear hE hs h0 h1 h2 h3
                  go_wp2
                  go_roundw
                  case rel => exact ⟨j + 1, m, c2, top2, A2, by omega, by rw [show ((j + 1 : Nat) : Int) - b = y + 1 by have := HY.out; omega], rfl, by rw [HE.out]; exact PA.out, htop2, HB.out⟩
                  case measure => simp [intOf2]; omega
          · have e0 : (u == a) = false := by simpa using h0
            by_cases h1 : v = b
            · have e1 : (v == b) = true := by simpa using h1
              by_cases h2 : u = b
              · have e2 : (u == b) = true := by simpa using h2
                by_cases h3 : v = a
                · have e3 : (v == a) = true := by simpa using h3
                  have hs : stepB a b x y = true := by rw [HST.out, decide_eq_true_eq]; omega
                  have hE := HYES.out hs
                  have HE := Lib.hid hE
                  clear hE hs h0 h1 h2 h3
                  go_wp2_with (at_builtin; refine wpList_appS2 (wr.heap.size + 1) (by simp) rfl (.tmp 52) (.tmp 56) rfl W2.heap.size top2 A2 m c2 _ (some ⟨wr.heap.size, 0, none⟩) 2 2 [x, y] rfl PA9.out OW9.out HPN.out htop9 rfl (by omega) hlo9 ?_; intro A7 c7 w7 hpa7 hb7)
                  have PA7 := Lib.hid hpa7
                  have HB7 := Lib.hid (HB.out.trans ((below_new2 hlo8).trans hb7))
                  have hs7 := hb7.size
                  clear hpa7 hb7
                  go_wp2
                  go_roundw
                  case rel => exact ⟨j + 1, m + 1, c7, _, A7, by omega, by rw [show ((j + 1 : Nat) : Int) - b = y + 1 by have := HY.out; omega], rfl, by rw [HE.out, ← List.append_assoc, List.map_append]; exact PA7.out, hs7, HB7.out⟩
                  case measure => simp [intOf2]; omega
                · have e3 : (v == a) = false := by simpa using h3
                  have hs : stepB a b x y = false := by rw [HST.out, decide_eq_false_iff_not]; omega
                  have hE := HNO.out hs
                  have HE := Lib.hid hE
                  clear hE hs h0 h1 h2 h3
                  go_wp2
                  go_roundw
                  case rel => exact ⟨j + 1, m, c2, top2, A2, by omega, by rw [show ((j + 1 : Nat) : Int) - b = y + 1 by have := HY.out; omega], rfl, by rw [HE.out]; exact PA.out, htop2, HB.out⟩
                  case measure => simp [intOf2]; omega
              · have e2 : (u == b) = false := by simpa using h2
                by_cases h3 : v = a
                · have e3 : (v == a) = true := by simpa using h3
                  have hs : stepB a b x y = false := by rw [HST.out, decide_eq_false_iff_not]; omega
                  have hE := HNO.out hs
                  have HE := Lib.hid hE
                  clear hE hs h0 h1 h2 h3
                  go_wp2
                  go_roundw
                  case rel => exact ⟨j + 1, m, c2, top2, A2, by omega, by rw [show ((j + 1 : Nat) : Int) - b = y + 1 by have := HY.out; omega], rfl, by rw [HE.out]; exact PA.out, htop2, HB.out⟩
                  case measure => simp [intOf2]; omega
                · have e3 : (v == a) = false := by simpa using h3
                  have hs : stepB a b x y = false := by rw [HST.out, decide_eq_false_iff_not]; omega
                  have hE := HNO.out hs
                  have HE := Lib.hid hE
                  clear hE hs h0 h1 h2 h3
                  go_wp2
                  go_roundw
                  case rel => exact ⟨j + 1, m, c2, top2, A2, by omega, by rw [show ((j + 1 : Nat) : Int) - b = y + 1 by have := HY.out; omega], rfl, by rw [HE.out]; exact PA.out, htop2, HB.out⟩
                  case measure => simp [intOf2]; omega
            · have e1 : (v == b) = false := by simpa using h1
              by_cases h2 : u = b
              · have e2 : (u == b) = true := by simpa using h2
                by_cases h3 : v = a
                · have e3 : (v == a) = true := by simpa using h3
                  have hs : stepB a b x y = true := by rw [HST.out, decide_eq_true_eq]; omega
                  have hE := HYES.out hs
                  have HE := Lib.hid hE
                  clear hE hs h0 h1 h2 h3
                  go_wp2_with (at_builtin; refine wpList_appS2 (wr.heap.size + 1) (by simp) rfl (.tmp 52) (.tmp 56) rfl W2.heap.size top2 A2 m c2 _ (some ⟨wr.heap.size, 0, none⟩) 2 2 [x, y] rfl PA9.out OW9.out HPN.out htop9 rfl (by omega) hlo9 ?_; intro A7 c7 w7 hpa7 hb7)
                  have PA7 := Lib.hid hpa7
                  have HB7 := Lib.hid (HB.out.trans ((below_new2 hlo8).trans hb7))
                  have hs7 := hb7.size
                  clear hpa7 hb7
                  go_wp2
                  go_roundw
                  case rel => exact ⟨j + 1, m + 1, c7, _, A7, by omega, by rw [show ((j + 1 : Nat) : Int) - b = y + 1 by have := HY.out; omega], rfl, by rw [HE.out, ← List.append_assoc, List.map_append]; exact PA7.out, hs7, HB7.out⟩
                  case measure => simp [intOf2]; omega
                · have e3 : (v == a) = false := by simpa using h3
                  have hs : stepB a b x y = false := by rw [HST.out, decide_eq_false_iff_not]; omega
                  have hE := HNO.out hs
                  have HE := Lib.hid hE
                  clear hE hs h0 h1 h2 h3
                  go_wp2
                  go_roundw
                  case rel => exact ⟨j + 1, m, c2, top2, A2, by omega, by rw [show ((j + 1 : Nat) : Int) - b = y + 1 by have := HY.out; omega], rfl, by rw [HE.out]; exact PA.out, htop2, HB.out⟩
                  case measure => simp [intOf2]; omega
              · have e2 : (u == b) = false := by simpa using h2
                by_cases h3 : v = a
                · have e3 : (v == a) = true := by simpa using h3
                  have hs : stepB a b x y = false := by rw [HST.out, decide_eq_false_iff_not]; omega
                  have hE := HNO.out hs
                  have HE := Lib.hid hE
                  clear hE hs h0 h1 h2 h3
                  go_wp2
                  go_roundw
                  case rel => exact ⟨j + 1, m, c2, top2, A2, by omega, by rw [show ((j + 1 : Nat) : Int) - b = y + 1 by have := HY.out; omega], rfl, by rw [HE.out]; exact PA.out, htop2, HB.out⟩
                  case measure => simp [intOf2]; omega
                · have e3 : (v == a) = false := by simpa using h3
                  have hs : stepB a b x y = false := by rw [HST.out, decide_eq_false_iff_not]; omega
                  have hE := HNO.out hs
                  have HE := Lib.hid hE
                  clear hE hs h0 h1 h2 h3
                  go_wp2
                  go_roundw
                  case rel => exact ⟨j + 1, m, c2, top2, A2, by omega, by rw [show ((j + 1 : Nat) : Int) - b = y + 1 by have := HY.out; omega], rfl, by rw [HE.out]; exact PA.out, htop2, HB.out⟩
                  case measure => simp [intOf2]; omega
        · obtain rfl : j = M := by omega
          have hyb : ¬ (j : Int) - b ≤ b := by have := HM.out; omega
          have eS : stepsTo a b i ++ stepsRow a b x j = stepsTo a b (i + 1) := by rw [stepsTo_succ, HMN.out, ← HX.out]
          rw [eS] at PA
          clear hpa hbw eS
          go_wp2
          go_roundw
          case rel => exact ⟨i + 1, m, c2, top2, A2, by omega, by rw [show ((i + 1 : Nat) : Int) - b = x + 1 by have := HX.out; omega], rfl, PA.out, htop2, HB.out⟩
          case measure => simp [intOf2]; omega
    · obtain rfl : i = M := by omega
      have hxb : ¬ (i : Int) - b ≤ b := by have := HM.out; omega
      have eS : stepsTo a b i = stepsL a b := by rw [← HMN.out]; exact stepsTo_all a b
      rw [eS] at PA
      have HB2 := Lib.hid (below_next B.out hbw)
      clear hpa hbw eS
      go_wp2
      go_ret
      have PL := PA.out.lower (show w.heap.size ≤ W2.heap.size by have := HSZ.out; omega)
      first | exact ⟨_, _, _, _, rfl, PL, HB2.out⟩ | exact ⟨_, _, _, rfl, ⟨_, PL⟩, HB2.out⟩ | exact ⟨rfl, ⟨_, PL⟩, HB2.out⟩

end Go.Proofs.Ytadopgfpfbianaa

namespace Go.Proofs.Ytadopgfpfbianaa
open Go.RowKit

end Go.Proofs.Ytadopgfpfbianaa
