/-
  A peaceful set, filled: pure facts.
  append of a part of a list onto a row of the call's own (for l1Put).
  Contracts: a list of the call's own with the same numbers (the model).
  Contracts: a number put into an increasing list (the model).
  AreGuards: what the law compares.
  AreGuards: both sides.
  FillPeaceful: both sides.
  FillPeaceful: the program.
-/
import Derived.Test.YtjplcnbifcpebaaGreatDoorBunHFillPeaceful6
import Derived.Test.YtjplcnbifcpebaaGreatDoorBunHFillPeaceful2
import Derived.Test.YtjplcnbifcpebaaGreatDoorBunHFillPeaceful4
namespace Go.Proofs.YtjplcnbifcpebaaGreatDoor
open Go.RowKit Go.Shelf

theorem peaceB_mem {W a b : Int} (hl : leaperB a b = true) : ∀ (l : List Int), peaceB W a b l = true ↔ ∀ x ∈ l, ∀ y ∈ l, leapB W a b x y = false := by
  intro l
  rw [peaceB, decide_eq_true_eq]
  induction l with
  | nil => simp
  | cons z t ih =>
    rw [List.pairwise_cons, ih]
    constructor
    · rintro ⟨h1, h2⟩ x hx y hy
      rcases List.mem_cons.1 hx with rfl | hx' <;> rcases List.mem_cons.1 hy with rfl | hy'
      · exact leapB_irr hl
      · rw [leapB_comm]; exact h1 y hy'
      · exact h1 x hx'
      · exact h2 x hx' y hy'
    · intro h
      exact ⟨fun x hx => h x (by simp [hx]) z (by simp), fun x hx y hy => h x (by simp [hx]) y (by simp [hy])⟩
def grdB (W a b : Int) (o : List Int) (c : Int) : Bool := o.contains c || o.any fun f => leapB W a b f c
theorem grdB_iff {W a b c : Int} {o : List Int} : grdB W a b o c = true ↔ c ∈ o ∨ ∃ f ∈ o, leapB W a b f c = true := by
  simp [grdB]
def fillS (W a b : Int) (o : List Int) (c : Int) : List Int := if grdB W a b o c then o else insI c o
def fillL (W a b : Int) (cells o : List Int) : List Int := cells.foldl (fillS W a b) o
theorem fill_peace {W a b c : Int} {o : List Int} (hl : leaperB a b = true) (h : peaceB W a b o = true) : peaceB W a b (fillS W a b o c) = true := by
  unfold fillS
  split
  · exact h
  · rename_i hn
    rw [peaceB_mem hl] at h ⊢
    rw [grdB_iff] at hn
    have hn2 : ∀ f ∈ o, leapB W a b f c = false := fun f hf => by
      cases hq : leapB W a b f c with
      | false => rfl
      | true => exact absurd (.inr ⟨f, hf, hq⟩) hn
    intro x hx y hy
    rw [insI_mem] at hx hy
    rcases hx with rfl | hx <;> rcases hy with rfl | hy
    · exact leapB_irr hl
    · rw [leapB_comm]; exact hn2 y hy
    · exact hn2 x hx
    · exact h x hx y hy
/-- The model's question of a cell. -/
theorem fill_ask {W a b c : Int} {o : List Int} (hl : leaperB a b = true) (h : peaceB W a b o = true) : (!o.contains c && peaceB W a b (insI c o)) = !grdB W a b o c := by
  cases hg : grdB W a b o c with
  | true =>
    rw [grdB_iff] at hg
    rcases hg with hg | ⟨f, hf, hq⟩
    · simp [hg]
    · rw [Bool.not_true, Bool.and_eq_false_iff]
      right
      rw [Bool.eq_false_iff, ne_eq, peaceB_mem hl]
      intro h2
      have := h2 f (by rw [insI_mem]; exact .inr hf) c (by rw [insI_mem]; exact .inl rfl)
      rw [hq] at this; cases this
  | false =>
    have h1 := fill_peace (c := c) hl h
    rw [fillS, hg] at h1
    have h2 : ¬ (c ∈ o ∨ ∃ f ∈ o, leapB W a b f c = true) := by rw [← grdB_iff, hg]; simp
    simp only [Bool.false_eq_true, if_false] at h1
    rw [h1]
    simp
    exact fun h3 => h2 (.inl h3)
theorem fill_snoc (W a b : Int) (l o : List Int) (c : Int) : fillL W a b (l ++ [c]) o = fillS W a b (fillL W a b l o) c := by simp [fillL]
theorem fillL_peace {W a b : Int} (hl : leaperB a b = true) : ∀ (l o : List Int), peaceB W a b o = true → peaceB W a b (fillL W a b l o) = true
  | [], _, h => h
  | _ :: t, _, h => fillL_peace hl t _ (fill_peace hl h)
theorem fillL_all {W a b : Int} {o : List Int} : ∀ (l : List Int), (∀ x ∈ l, grdB W a b o x = true) → fillL W a b l o = o
  | [], _ => rfl
  | c :: t, h => by
    rw [fillL, List.foldl_cons, fillS, if_pos (h c (by simp))]
    exact fillL_all t (fun x hx => h x (by simp [hx]))
theorem grdB_mono {W a b c x : Int} {o : List Int} (h : grdB W a b o x = true) : grdB W a b (insI c o) x = true := by
  rw [grdB_iff] at h ⊢
  rcases h with h | ⟨f, hf, hq⟩
  · exact .inl (by rw [insI_mem]; exact .inr h)
  · exact .inr ⟨f, by rw [insI_mem]; exact .inr hf, hq⟩
theorem fillL_append (W a b : Int) (l m o : List Int) : fillL W a b (l ++ m) o = fillL W a b m (fillL W a b l o) := by simp [fillL]
/-- The first cell that is not guarded is added, whether it is added now or when its turn comes. -/
theorem fillL_first {W a b c : Int} {o pre post : List Int} (hpre : ∀ x ∈ pre, grdB W a b o x = true) (hc : grdB W a b o c = false) :
    fillL W a b (pre ++ c :: post) (insI c o) = fillL W a b (pre ++ c :: post) o := by
  rw [fillL_append, fillL_append, fillL_all pre hpre, fillL_all pre (fun x hx => grdB_mono (hpre x hx))]
  rw [fillL, fillL, List.foldl_cons, List.foldl_cons, fillS, fillS, hc, if_pos (by rw [grdB_iff]; exact .inl (by rw [insI_mem]; exact .inl rfl))]
  simp
theorem fillL_len {W a b : Int} : ∀ (l o : List Int), (fillL W a b l o).length ≤ o.length + l.length
  | [], _ => by simp [fillL]
  | c :: t, o => by
    have h := fillL_len t (fillS W a b o c) (W := W) (a := a) (b := b)
    have h2 : (fillS W a b o c).length ≤ o.length + 1 := by
      unfold fillS; split
      · omega
      · exact insI_len c o
    rw [fillL, List.foldl_cons]
    rw [fillL] at h
    rw [List.length_cons]; omega
theorem fillS_rise {W a b c : Int} {o : List Int} (h : o.Pairwise (· < ·)) : (fillS W a b o c).Pairwise (· < ·) := by
  unfold fillS; split
  · exact h
  · exact insI_rise c o h
theorem fillS_mem {W a b c x : Int} {o : List Int} (h : x ∈ fillS W a b o c) : x = c ∨ x ∈ o := by
  unfold fillS at h; split at h
  · exact .inr h
  · exact (insI_mem _ _ _).1 h
theorem fillL_mem {W a b x : Int} : ∀ (l o : List Int), x ∈ fillL W a b l o → x ∈ l ∨ x ∈ o
  | [], _, h => .inr h
  | c :: t, o, h => by
    rcases fillL_mem t _ h with h1 | h1
    · exact .inl (by simp [h1])
    · rcases fillS_mem h1 with rfl | h2
      · exact .inl (by simp)
      · exact .inr h2

/-! The program's words. -/
theorem mask_bits {t i : Nat} (ht : t < 18446744073709551616) : (18446744073709551615 - t).testBit i = (decide (i < 64) && !t.testBit i) := by
  have h := Nat.testBit_two_pow_sub_succ (x := t) (n := 64) ht i
  rwa [show 2 ^ 64 - (t + 1) = 18446744073709551615 - t by omega] at h
def ano (s t : Nat) : Nat := s &&& (18446744073709551615 - t)
theorem ano_bit {s t i : Nat} (hs : s < 18446744073709551616) (ht : t < 18446744073709551616) : (ano s t).testBit i = (s.testBit i && !t.testBit i) := by
  rw [ano, Nat.testBit_and, mask_bits ht]
  by_cases hi : i < 64
  · simp [hi]
  · rw [Nat.testBit_lt_two_pow (x := s) (i := i) (Nat.lt_of_lt_of_le hs (by
      rw [show (18446744073709551616 : Nat) = 2 ^ 64 by decide]; exact Nat.pow_le_pow_right (by decide) (by omega)))]
    simp
theorem ano_le (s t : Nat) : ano s t ≤ s := Nat.and_le_left
theorem ano_lt {s t i : Nat} (hs : s < 18446744073709551616) (ht : t < 18446744073709551616) (h1 : s.testBit i = true) (h2 : t.testBit i = true) : ano s t < s := by
  rcases Nat.lt_or_eq_of_le (ano_le s t) with h | h
  · exact h
  · have := ano_bit (i := i) hs ht
    rw [h, h1, h2] at this; simp at this
theorem bitsL_or {s : Nat} {c : Int} (h0 : 0 ≤ c) (h1 : c < 64) : bitsL (s ||| 2 ^ c.toNat) = insI c (bitsL s) := by
  refine rise_unique (bitsL_rise _) (insI_rise _ _ (bitsL_rise _)) fun x => ?_
  rw [insI_mem, bitsL_mem, bitsL_mem, Nat.testBit_or, Nat.testBit_two_pow, Bool.or_eq_true, decide_eq_true_eq]
  constructor
  · rintro ⟨h2, h3, (h4 | h4)⟩
    · exact .inr ⟨h2, h3, h4⟩
    · exact .inl (by omega)
  · rintro (rfl | ⟨h2, h3, h4⟩)
    · exact ⟨h0, h1, .inr rfl⟩
    · exact ⟨h2, h3, .inl h4⟩
/-- What the loop of 'filled' keeps. -/
structure FillI (W H : Int) (xs : List Int) (a b : Int) (F : List Int) (s left : Nat) : Prop where
  slt : s < 18446744073709551616
  llt : left < 18446744073709551616
  has : ∀ x ∈ bitsL s, hasB W H xs x = true
  left_ : ∀ i, left.testBit i = true ↔ hasB W H xs (i : Int) = true ∧ grdB W a b (bitsL s) (i : Int) = false
  fill : fillL W a b (cellsL W H xs) (bitsL s) = F
theorem FillI.done {W H a b : Int} {xs F : List Int} {s : Nat} (hg : goodB W H xs = true) (h : FillI W H xs a b F s 0) : bitsL s = F := by
  rw [← h.fill, fillL_all]
  intro x hx
  have hh := cellsL_mem.1 hx
  have h64 := has_64 hg hh
  have h1 := h.left_ x.toNat
  rw [show ((x.toNat : Nat) : Int) = x by omega] at h1
  cases hq : grdB W a b (bitsL s) x with
  | true => rfl
  | false =>
    have := h1.2 ⟨hh, hq⟩
    simp at this
theorem FillI.step {W H a b : Int} {xs F : List Int} {s left k : Nat} (hg : goodB W H xs = true) (hk : k < 64) (hb : left.testBit k = true) (hlow : ∀ i, i < k → left.testBit i = false) (h : FillI W H xs a b F s left) :
    FillI W H xs a b F (s ||| 2 ^ k) (ano left (grdC (glG W H xs a b) (k : Int))) := by
  obtain ⟨hh, hng⟩ := (h.left_ k).1 hb
  have hor : bitsL (s ||| 2 ^ k) = insI (k : Int) (bitsL s) := bitsL_or (c := (k : Int)) (by omega) (by omega)
  have hgc := grdC_lt (glG_lt (a := a) (b := b) hg) (x := (k : Int)) (by omega) (by omega)
  refine ⟨or_lt64 h.slt (Nat.lt_of_lt_of_le (Nat.pow_lt_pow_right (by decide) hk) (by decide)), Nat.lt_of_le_of_lt (ano_le _ _) h.llt, ?_, ?_, ?_⟩
  · intro x hx
    rw [hor, insI_mem] at hx
    rcases hx with rfl | hx
    · exact hh
    · exact h.has x hx
  · intro i
    rw [ano_bit h.llt hgc, Bool.and_eq_true, Bool.not_eq_true', h.left_ i, hor]
    have hgb : (grdC (glG W H xs a b) (k : Int)).testBit i = true ↔ (hasB W H xs (i : Int) = true ∧ leapB W a b (k : Int) (i : Int) = true) ∨ k = i := by
      rw [grdC_bit, glG_at (by omega) (by omega) (cellsL_mem.2 hh), near_bit hg]; simp
    have hins : grdB W a b (insI (k : Int) (bitsL s)) (i : Int) = true ↔ grdB W a b (bitsL s) (i : Int) = true ∨ k = i ∨ leapB W a b (k : Int) (i : Int) = true := by
      rw [grdB_iff, grdB_iff, insI_mem]
      constructor
      · rintro ((h1 | h1) | ⟨f, hf, hq⟩)
        · exact .inr (.inl (by omega))
        · exact .inl (.inl h1)
        · rw [insI_mem] at hf
          rcases hf with rfl | hf
          · exact .inr (.inr hq)
          · exact .inl (.inr ⟨f, hf, hq⟩)
      · rintro ((h1 | ⟨f, hf, hq⟩) | rfl | h1)
        · exact .inl (.inr h1)
        · exact .inr ⟨f, by rw [insI_mem]; exact .inr hf, hq⟩
        · exact .inl (.inl rfl)
        · exact .inr ⟨_, by rw [insI_mem]; exact .inl rfl, h1⟩
    constructor
    · rintro ⟨⟨h1, h2⟩, h3⟩
      refine ⟨h1, ?_⟩
      rw [Bool.eq_false_iff]
      intro h4
      rcases hins.1 h4 with h5 | h5 | h5
      · rw [h2] at h5; cases h5
      · rw [hgb.2 (.inr h5)] at h3; cases h3
      · rw [hgb.2 (.inl ⟨h1, h5⟩)] at h3; cases h3
    · rintro ⟨h1, h2⟩
      refine ⟨⟨h1, ?_⟩, ?_⟩
      · rw [Bool.eq_false_iff]; intro h3
        rw [hins.2 (.inl h3)] at h2; cases h2
      · rw [Bool.eq_false_iff]; intro h3
        rcases hgb.1 h3 with ⟨_, h4⟩ | h4
        · rw [hins.2 (.inr (.inr h4))] at h2; cases h2
        · rw [hins.2 (.inr (.inl h4))] at h2; cases h2
  · rw [hor, ← h.fill]
    obtain ⟨pre, post, e⟩ := List.append_of_mem (cellsL_mem.2 hh)
    rw [e]
    refine fillL_first (fun x hx => ?_) hng
    have hr := cellsL_rise W H xs
    rw [e, List.pairwise_append] at hr
    have hlt : x < (k : Int) := hr.2.2 x hx _ (by simp)
    have hxh : hasB W H xs x = true := cellsL_mem.1 (by rw [e]; simp [hx])
    have h64 := has_64 hg hxh
    have h1 := h.left_ x.toNat
    rw [show ((x.toNat : Nat) : Int) = x by omega, hlow x.toNat (by omega)] at h1
    cases hq : grdB W a b (bitsL s) x with
    | true => rfl
    | false => exact absurd (h1.2 ⟨hxh, hq⟩) (by simp)
/-- The beginning: 'left' is all that the set leaves unguarded. -/
theorem FillI.start {W H a b : Int} {xs : List Int} {s : Nat} (hg : goodB W H xs = true) (hs : s < 18446744073709551616) (hh : ∀ x ∈ bitsL s, hasB W H xs x = true) :
    FillI W H xs a b (fillL W a b (cellsL W H xs) (bitsL s)) s (ano (allS W H xs) (grdL (glG W H xs a b) (bitsL s))) := by
  have hall : allS W H xs < 18446744073709551616 := set_lt (cells_64 hg)
  have hgl : grdL (glG W H xs a b) (bitsL s) < 18446744073709551616 := grdL_lt (glG_lt hg) _ (fun x hx => ⟨(bitsL_mem.1 hx).1, (bitsL_mem.1 hx).2.1⟩)
  refine ⟨hs, Nat.lt_of_le_of_lt (ano_le _ _) hall, hh, fun i => ?_, rfl⟩
  have hab : (allS W H xs).testBit i = true ↔ hasB W H xs (i : Int) = true := by
    rw [allS, setBits_test _ _ _ rfl, List.mem_map]
    constructor
    · rintro ⟨y, hy, e⟩
      have := cells_64 hg y hy
      rw [show (i : Int) = y by omega]; exact cellsL_mem.1 hy
    · intro h; exact ⟨(i : Int), cellsL_mem.2 h, by omega⟩
  rw [ano_bit hall hgl, Bool.and_eq_true, Bool.not_eq_true', hab]
  constructor
  · rintro ⟨h1, h2⟩
    refine ⟨h1, ?_⟩
    rw [Bool.eq_false_iff]; intro h3
    rw [Bool.eq_false_iff] at h2
    exact h2 ((guard_bit hg hh i).2 ⟨h1, grdB_iff.1 h3⟩)
  · rintro ⟨h1, h2⟩
    refine ⟨h1, ?_⟩
    rw [Bool.eq_false_iff]; intro h3
    rw [Bool.eq_false_iff] at h2
    exact h2 (grdB_iff.2 ((guard_bit hg hh i).1 h3).2)
end Go.Proofs.YtjplcnbifcpebaaGreatDoor

namespace Go.Proofs.YtjplcnbifcpebaaGreatDoor
open Go.RowKit

/-- append of a part of a list onto a row of the call's own. -/
theorem wpList_appN {P : Program} {w : World} {ops : Array Oper} {rest : List Oper} {o : Oper} {a : Act} {Q : Exit → Act → World → Prop} (hgd : o.guard = none) (s x : Operand) (T E : TypeId)
    (ho : o.op = .call { callee := .builtin .append, args := #[s, x], argTypes := #[T, T] }) (i0 : TypeInfo)
    (hT : P.underlying T = some (.slice E)) (hi : P.info? E = some i0) (hz0 : i0.zero = some (.int .i64 0)) (hz1 : i0.size = 1) (hz2 : i0.bytes = 8)
    (lo : Nat) (A : Option Addr) (n c : Nat) (xs : List Int) (ad : Addr) (m cy : Nat) (ys : List Int) (hs : a.eval s = .slice A n c) (hown : OwnI E w lo A n c xs) (hx : a.eval x = .slice (some ad) m cy) (hm : ys.length = m)
    (hy : ∀ j y, ys[j]? = some y → w.cell? (ad.add j) = some (.int .i64 y)) (hn : n + m ≤ 1000000) (hlo : lo ≤ w.heap.size)
    (h : ∀ A' c' w', OwnI E w' lo A' (n + m) c' (xs ++ ys) → Below lo w w' → wpList P ops Q rest (a.put o.dst (.slice A' (n + m) c')) w') :
    wpList P ops Q (o :: rest) a w := by
  refine wpList_append_own w hgd s x T ho lo E i0 (.int .i64 0) 1 8 hT hi hz0 hz1 hz2 rfl (by decide) (.slice A n c) n (xs.map (Value.int .i64)) hs hown
    ad m cy (ys.map (Value.int .i64)) hx (by rw [List.length_map, hm]; omega) (fun j u hj => ?_) (fun u hu => ?_) (by unfold maxLen; omega) (by omega) hlo ?_
  · rw [List.getElem?_map] at hj
    cases hq : ys[j]? with
    | none => rw [hq] at hj; cases hj
    | some y => rw [hq] at hj; injection hj with hj; rw [← hj]; exact hy j y hq
  · obtain ⟨y, _, rfl⟩ := List.mem_map.1 hu; rfl
  · intro v' w' hown' hgrow _
    rw [← List.map_append] at hown'
    obtain ⟨A', c', rfl, hO⟩ := own_form hown'
    exact h A' c' w' hO ((Below.refl _ _).grown hgrow hlo (fun k hk => (World.ownsRow.lt hown k hk).1))

end Go.Proofs.YtjplcnbifcpebaaGreatDoor

namespace Go.Proofs.YtjplcnbifcpebaaGreatDoor
open Go.RowKit

theorem l1Own_any (a1 : Addr) (n c : Nat) (ys : List Int) (w : World) (hy : Rd w (some a1) n ys) (h64 : n ≤ 1000) :
    Calls Tryz.prog 18 #[.slice (some a1) n c] w fun e w' => ∃ A' c', e = .returned (.slice A' n c') ∧ OwnI 3 w' w.heap.size A' n c' ys ∧ Below w.heap.size w w' := by
  obtain ⟨i0, hi, hz0, hz1, hz2⟩ := info_parts infoI
  have HI := Lib.hid hi; have HZ0 := Lib.hid hz0; have HZ1 := Lib.hid hz1; have HZ2 := Lib.hid hz2
  clear hi hz0 hz1 hz2
  go_enter Tryz.func18, Tryz.ntmps18
  have hown : OwnI 3 (w.alloc (.cells #[] 3)) w.heap.size (some ⟨w.heap.size, 0, none⟩) 0 0 [] :=
    World.ownsRow_made (base := w.heap.size) (e := 3) (size := 1) w #[] 0 (Nat.le_refl _) (Nat.zero_le _) rfl
  have OWN := Lib.hid hown
  have HY := Lib.hid (hy.alloc (.cells #[] 3))
  have HB := Lib.hid ((Below.refl w.heap.size w).alloc (Nat.le_refl _) (.cells #[] 3))
  clear hown hy
  go_wp2_with (at_builtin; refine wpList_appN rfl (.tmp 3) (.tmp 4) 22 3 rfl i0 Tryz.underlying22 HI.out HZ0.out HZ1.out HZ2.out w.heap.size _ 0 0 [] a1 n c ys rfl OWN.out rfl HY.out.1 (fun j y hj => HY.out.cell_ hj) (by omega) (by simp) ?_; intro A9 c9 w9 hown9 hb9)
  go_ret
  exact ⟨A9, c9, rfl, by simpa using hown9, HB.out.trans hb9⟩

theorem l1Own_all (A : Option Addr) (n c : Nat) (ys : List Int) (w : World) (hy : Rd w A n ys) (h64 : n ≤ 1000) :
    Calls Tryz.prog 18 #[.slice A n c] w fun e w' => ∃ A' c', e = .returned (.slice A' n c') ∧ OwnI 3 w' w.heap.size A' n c' ys ∧ Below w.heap.size w w' := by
  cases A with
  | some a1 => exact l1Own_any a1 n c ys w hy h64
  | none =>
    have hn : n = 0 := by
      rcases Nat.eq_zero_or_pos n with h | h
      · exact h
      · obtain ⟨_, _, _, hA, _⟩ := hy.2.2 0 h; cases hA
    subst hn
    have hys : ys = [] := List.eq_nil_of_length_eq_zero hy.1
    subst hys
    have hown : OwnI 3 (w.alloc (.cells #[] 3)) w.heap.size (some ⟨w.heap.size, 0, none⟩) 0 0 [] :=
      World.ownsRow_made (base := w.heap.size) (e := 3) (size := 1) w #[] 0 (Nat.le_refl _) (Nat.zero_le _) rfl
    have OWN := Lib.hid hown
    have HB := Lib.hid ((Below.refl w.heap.size w).alloc (Nat.le_refl _) (.cells #[] 3))
    clear hown hy
    go_enter Tryz.func18, Tryz.ntmps18
    go_wp2
    go_ret
    exact ⟨some ⟨w.heap.size, 0, none⟩, 0, rfl, OWN.out, HB.out⟩
end Go.Proofs.YtjplcnbifcpebaaGreatDoor

namespace Go.Proofs.YtjplcnbifcpebaaGreatDoor
open Go.RowKit

theorem ins_end {q : Int} {xs : List Int} {k : Nat} (h : ∀ j, j < k → ∀ x, xs[j]? = some x → x < q) (hk : xs.length ≤ k) : insI q xs = xs.take k ++ [q] ++ xs.drop k := by
  rw [insI_pass h, List.drop_of_length_le hk]; simp [insI]
theorem ins_at {q x : Int} {xs : List Int} {k : Nat} (h : ∀ j, j < k → ∀ x, xs[j]? = some x → x < q) (hx : xs[k]? = some x) (h1 : ¬ x < q) (h2 : x ≠ q) : insI q xs = xs.take k ++ [q] ++ xs.drop k := by
  rw [insI_pass h, drop_cons_of hx, insI, if_neg h1, if_neg h2]; simp
theorem ins_same {q : Int} {xs : List Int} {k : Nat} (h : ∀ j, j < k → ∀ x, xs[j]? = some x → x < q) (hx : xs[k]? = some q) : insI q xs = xs := by
  rw [insI_pass h, drop_cons_of hx, insI, if_neg (by omega), if_pos rfl, ← drop_cons_of hx, List.take_append_drop]

set_option maxRecDepth 100000 in
set_option maxHeartbeats 4000000 in
theorem l1Put_any (lo : Nat) (A : Option Addr) (n c : Nat) (xs : List Int) (q : Int) (w : World) (hown : OwnI 3 w lo A n c xs) (hn : n ≤ 64) (hlo : lo ≤ w.heap.size) :
    Calls Tryz.prog 20 #[.slice A n c, .int .i64 q] w fun e w' => ∃ A' n' c', e = .returned (.slice A' n' c') ∧ OwnI 3 w' lo A' n' c' (insI q xs) ∧ Below w.heap.size w w' := by
  obtain ⟨i0, hi, hz0, hz1, hz2⟩ := info_parts infoI
  have HI := Lib.hid hi; have HZ0 := Lib.hid hz0; have HZ1 := Lib.hid hz1; have HZ2 := Lib.hid hz2
  clear hi hz0 hz1 hz2
  rcases hown.form with ⟨rfl, rfl, rfl, rfl⟩ | ⟨g, rfl, hg1, hg2, hnc, hcm⟩
  · clear hown
    go_enter Tryz.func20, Tryz.ntmps20
    go_wp2
    go_loopw [5] (fun s wr => s = .int .i64 0 ∧ wr = w) (fun _ _ => 0)
    case atStart => exact ⟨rfl, rfl⟩
    case round =>
      obtain ⟨rfl, rfl⟩ := hrel
      have OE := Lib.hid (show OwnI 3 (wr.alloc (.cells #[] 3)) wr.heap.size (some ⟨wr.heap.size, 0, none⟩) 0 0 [] from World.ownsRow_made (base := wr.heap.size) (e := 3) (size := 1) wr #[] 0 (Nat.le_refl _) (Nat.zero_le _) rfl)
      have BE := Lib.hid ((Below.refl wr.heap.size wr).alloc (Nat.le_refl _) (.cells #[] 3))
      have hs1 : wr.heap.size ≤ (wr.alloc (.cells #[] 3)).heap.size := by simp
      go_wp2_with (at_builtin; refine wpList_app1 rfl (.tmp 39) (.tmp 41) 22 3 rfl i0 Tryz.underlying22 HI.out HZ0.out HZ1.out HZ2.out wr.heap.size _ 0 _ [] q rfl OE.out (by go_simp) (by omega) hs1 ?_; intro A2 c2 w2 hown2 hb2; have O2 := Lib.hid hown2; have B2 := Lib.hid (BE.out.trans hb2); have hcp2 : 1 ≤ c2 := (by have := hown2.cap; omega); obtain ⟨g2, rfl, -, -⟩ := hown2.some_ (k := 0) (by omega); clear hown2 hb2)
      go_ret
      exact ⟨_, _, c2, rfl, O2.out.lower hlo, B2.out⟩
  · have OWN := Lib.hid hown
    have hl9 : n ≤ 9223372036854775807 := by omega
    go_enter Tryz.func20, Tryz.ntmps20
    clear hown hcm
    go_wp2
    go_loopw [5] (fun s wr => ∃ k : Nat, k ≤ n ∧ s = .int .i64 k ∧ (∀ j, j < k → ∀ x, xs[j]? = some x → x < q) ∧ w = wr) (fun s _ => n - (intOf s).toNat)
    case atStart => exact ⟨0, Nat.zero_le _, rfl, (fun j h => by omega), rfl⟩
    case round =>
      obtain ⟨k, hk, rfl, hlow, rfl⟩ := hrel
      have HLOW := Lib.hid hlow
      clear hlow
      by_cases hlt : k < n
      · obtain ⟨x, hx⟩ : ∃ x, xs[k]? = some x := ⟨_, List.getElem?_eq_getElem (show k < xs.length by have := OWN.out.len; omega)⟩
        have x0 := OWN.out.cell hx
        have HX := Lib.hid hx
        clear hx
        by_cases hxq : x < q
        · go_wp2
          go_roundw
          case rel => exact ⟨k + 1, by omega, by go_num, (fun j hj y hy => by
            rcases Nat.lt_or_eq_of_le (Nat.le_of_lt_succ hj) with h | h
            · exact HLOW.out j h y hy
            · subst h; rw [HX.out] at hy; injection hy with hy; omega), by trivial⟩
          case measure => simp [intOf]; omega
        · by_cases hxe : x = q
          · subst hxe
            have HS := Lib.hid (ins_same HLOW.out HX.out)
            go_wp2
            go_ret
            exact ⟨_, _, _, rfl, by rw [HS.out]; exact OWN.out, Below.refl _ _⟩
          · have hqe : (x == q) = false := by simpa using hxe
            have HINS := Lib.hid (ins_at HLOW.out HX.out hxq hxe)
            clear HLOW
            have hsw : w.heap.size ≤ (w.alloc (.cells #[] 3)).heap.size := by simp
            have OE := Lib.hid (show OwnI 3 (w.alloc (.cells #[] 3)) w.heap.size (some ⟨w.heap.size, 0, none⟩) 0 0 [] from World.ownsRow_made (base := w.heap.size) (e := 3) (size := 1) w #[] 0 (Nat.le_refl _) (Nat.zero_le _) rfl)
            have BE := Lib.hid ((Below.refl w.heap.size w).alloc (Nat.le_refl _) (.cells #[] 3))
            have RK := Lib.hid ((OWN.out.rd.take hk).alloc (.cells #[] 3))
            have hkc : (k : Int) ≤ (c : Int) := by have := OWN.out.cap; omega
            have hkn : (k : Int) ≤ (n : Int) := by omega
            have hnc : (n : Int) ≤ (c : Int) := by have := OWN.out.cap; omega
            have hck : ¬ c = k := by omega
            have RD := Lib.hid ((OWN.out.rd.drop hk))
            have hdl := RD.out.1
            go_wp2_with (first
              | (at_builtin; refine wpList_appN rfl (.tmp 34) (.tmp 37) 22 3 rfl i0 Tryz.underlying22 HI.out HZ0.out HZ1.out HZ2.out w.heap.size _ 0 0 [] ⟨g, 0, none⟩ k c (xs.take k) rfl OE.out rfl RK.out.1 (fun j y hj => RK.out.cell_ hj) (by omega) hsw ?_; intro A1 c1 w1 hown1 hb1; rw [Nat.zero_add, List.nil_append] at hown1; have O1 := Lib.hid hown1; have B1 := Lib.hid (BE.out.trans hb1); have hs1 := (BE.out.trans hb1).size; clear hown1 hb1)
              | (at_builtin; refine wpList_app1 rfl (.tmp 39) (.tmp 41) 22 3 rfl i0 Tryz.underlying22 HI.out HZ0.out HZ1.out HZ2.out w.heap.size A1 k c1 (xs.take k) q rfl O1.out rfl (by omega) hs1 ?_; intro A2 c2 w2 hown2 hb2; have O2 := Lib.hid hown2; have B2 := Lib.hid (B1.out.trans hb2); have hs2 := (B1.out.trans hb2).size; have R2 := Lib.hid (RD.out.keep (B1.out.trans hb2)); clear hown2 hb2)
              | (at_builtin; refine wpList_appN rfl (.tmp 43) (.tmp 46) 22 3 rfl i0 Tryz.underlying22 HI.out HZ0.out HZ1.out HZ2.out w.heap.size A2 (k + 1) c2 (xs.take k ++ [q]) ⟨g, 0 + k, none⟩ (n - k) _ (xs.drop k) rfl O2.out (by simp; rfl) R2.out.1 (fun j y hj => R2.out.cell_ hj) (by omega) hs2 ?_; intro A3 c3 w3 hown3 hb3; have O3 := Lib.hid hown3; have B3 := Lib.hid (B2.out.trans hb3); clear hown3 hb3))
            trace_state
            go_ret
            exact ⟨A3, _, c3, rfl, by rw [HINS.out]; exact (O3.out.lower hlo), B3.out⟩
      · have HINS := Lib.hid (ins_end HLOW.out (by have := OWN.out.len; omega))
        clear HLOW
        have hsw : w.heap.size ≤ (w.alloc (.cells #[] 3)).heap.size := by simp
        have OE := Lib.hid (show OwnI 3 (w.alloc (.cells #[] 3)) w.heap.size (some ⟨w.heap.size, 0, none⟩) 0 0 [] from World.ownsRow_made (base := w.heap.size) (e := 3) (size := 1) w #[] 0 (Nat.le_refl _) (Nat.zero_le _) rfl)
        have BE := Lib.hid ((Below.refl w.heap.size w).alloc (Nat.le_refl _) (.cells #[] 3))
        have RK := Lib.hid ((OWN.out.rd.take hk).alloc (.cells #[] 3))
        have hkc : (k : Int) ≤ (c : Int) := by have := OWN.out.cap; omega
        have hkn : (k : Int) ≤ (n : Int) := by omega
        have hnc : (n : Int) ≤ (c : Int) := by have := OWN.out.cap; omega
        by_cases hck : c = k
        · have HDR := Lib.hid (show xs.drop k = [] from List.drop_of_length_le (by have := OWN.out.len; have := OWN.out.cap; omega))
          subst hck
          go_wp2_with (first
            | (at_builtin; refine wpList_appN rfl (.tmp 34) (.tmp 37) 22 3 rfl i0 Tryz.underlying22 HI.out HZ0.out HZ1.out HZ2.out w.heap.size _ 0 0 [] ⟨g, 0, none⟩ c c (xs.take c) rfl OE.out rfl RK.out.1 (fun j y hj => RK.out.cell_ hj) (by omega) hsw ?_; intro A1 c1 w1 hown1 hb1; rw [Nat.zero_add, List.nil_append] at hown1; have O1 := Lib.hid hown1; have B1 := Lib.hid (BE.out.trans hb1); have hs1 := (BE.out.trans hb1).size; clear hown1 hb1)
            | (at_builtin; refine wpList_app1 rfl (.tmp 39) (.tmp 41) 22 3 rfl i0 Tryz.underlying22 HI.out HZ0.out HZ1.out HZ2.out w.heap.size A1 c c1 (xs.take c) q rfl O1.out rfl (by omega) hs1 ?_; intro A2 c2 w2 hown2 hb2; have O2 := Lib.hid hown2; have B2 := Lib.hid (B1.out.trans hb2); have hs2 := (B1.out.trans hb2).size; clear hown2 hb2)
            | (at_builtin; refine wpList_appN rfl (.tmp 43) (.tmp 46) 22 3 rfl i0 Tryz.underlying22 HI.out HZ0.out HZ1.out HZ2.out w.heap.size A2 (c + 1) c2 (xs.take c ++ [q]) ⟨g, 0, none⟩ 0 _ [] rfl O2.out rfl rfl (fun j y hj => by simp at hj) (by omega) hs2 ?_; intro A3 c3 w3 hown3 hb3; have O3 := Lib.hid hown3; have B3 := Lib.hid (B2.out.trans hb3); clear hown3 hb3))
          trace_state
          go_ret
          exact ⟨A3, _, c3, rfl, by rw [HINS.out, HDR.out]; exact (O3.out.lower hlo), B3.out⟩
        · have RD := Lib.hid ((OWN.out.rd.drop hk))
          have hdl := RD.out.1
          go_wp2_with (first
            | (at_builtin; refine wpList_appN rfl (.tmp 34) (.tmp 37) 22 3 rfl i0 Tryz.underlying22 HI.out HZ0.out HZ1.out HZ2.out w.heap.size _ 0 0 [] ⟨g, 0, none⟩ k c (xs.take k) rfl OE.out rfl RK.out.1 (fun j y hj => RK.out.cell_ hj) (by omega) hsw ?_; intro A1 c1 w1 hown1 hb1; rw [Nat.zero_add, List.nil_append] at hown1; have O1 := Lib.hid hown1; have B1 := Lib.hid (BE.out.trans hb1); have hs1 := (BE.out.trans hb1).size; clear hown1 hb1)
            | (at_builtin; refine wpList_app1 rfl (.tmp 39) (.tmp 41) 22 3 rfl i0 Tryz.underlying22 HI.out HZ0.out HZ1.out HZ2.out w.heap.size A1 k c1 (xs.take k) q rfl O1.out rfl (by omega) hs1 ?_; intro A2 c2 w2 hown2 hb2; have O2 := Lib.hid hown2; have B2 := Lib.hid (B1.out.trans hb2); have hs2 := (B1.out.trans hb2).size; have R2 := Lib.hid (RD.out.keep (B1.out.trans hb2)); clear hown2 hb2)
            | (at_builtin; refine wpList_appN rfl (.tmp 43) (.tmp 46) 22 3 rfl i0 Tryz.underlying22 HI.out HZ0.out HZ1.out HZ2.out w.heap.size A2 (k + 1) c2 (xs.take k ++ [q]) ⟨g, 0 + k, none⟩ (n - k) _ (xs.drop k) rfl O2.out (by simp; rfl) R2.out.1 (fun j y hj => R2.out.cell_ hj) (by omega) hs2 ?_; intro A3 c3 w3 hown3 hb3; have O3 := Lib.hid hown3; have B3 := Lib.hid (B2.out.trans hb3); clear hown3 hb3))
          trace_state
          go_ret
          exact ⟨A3, _, c3, rfl, by rw [HINS.out]; exact (O3.out.lower hlo), B3.out⟩

end Go.Proofs.YtjplcnbifcpebaaGreatDoor

namespace Go.Proofs.YtjplcnbifcpebaaGreatDoor
open Go.RowKit Go.Shelf

def areGB (W H : Int) (xs : List Int) (a b : Int) (ps : List Int) : Bool := decide ((guardL W H xs a b ps).length = (cellsL W H xs).length)
theorem areGB_iff {W H a b : Int} {xs ps : List Int} (hg : goodB W H xs = true) (hp : ∀ x ∈ ps, hasB W H xs x = true) : areGB W H xs a b ps = true ↔ grdL (glG W H xs a b) ps = allS W H xs := by
  rw [areGB, decide_eq_true_eq]
  constructor
  · intro h
    have h1 : guardL W H xs a b ps = cellsL W H xs := (List.filter_sublist (l := cellsL W H xs)).eq_of_length h
    have h2 : setBits ((bitsL (grdL (glG W H xs a b) ps)).map Int.toNat) = setBits ((cellsL W H xs).map Int.toNat) := by rw [guard_bits hg hp, h1]
    apply Nat.eq_of_testBit_eq
    intro i
    have h3 : (setBits ((bitsL (grdL (glG W H xs a b) ps)).map Int.toNat)).testBit i = (setBits ((cellsL W H xs).map Int.toNat)).testBit i := by rw [h2]
    rw [allS, ← h3, Bool.eq_iff_iff, setBits_test _ _ _ rfl, List.mem_map]
    constructor
    · intro hb
      have hi : i < 64 := by
        rcases Nat.lt_or_ge i 64 with h | h
        · exact h
        · exfalso
          rw [guard_bit hg hp] at hb
          have := (has_64 hg hb.1).2; omega
      exact ⟨(i : Int), bitsL_mem.2 ⟨by omega, by omega, by simpa using hb⟩, by omega⟩
    · rintro ⟨x, hx, rfl⟩
      exact (bitsL_mem.1 hx).2.2
  · intro h
    rw [← guard_bits hg hp, h, allS, set_bits (cellsL_rise W H xs) (cells_64 hg)]
def areV (W H : Int) (xs : List Int) (a b : Int) (ps : List Int) : Bool := askB W H xs a b ps && areGB W H xs a b ps

end Go.Proofs.YtjplcnbifcpebaaGreatDoor

namespace Go.Proofs.YtjplcnbifcpebaaGreatDoor
open Go.RowKit Go.Shelf
attribute [local go_sem] Oper.semAt_some

set_option maxRecDepth 100000 in
theorem store_groundW {G : List Nat} (hG : G.length = 65) (w2 : World) :
    (Instr.storeAt 48 (.pointer (some ⟨w2.heap.size, 0, none⟩)) (.agg (words G).toArray)).run Tryz.prog (w2.alloc (.cells Tryz.zeroCells48 48)) = .ok () (w2.alloc (.cells (words G).toArray 48)) :=
  run_storeAt_new _ _ _ _ (by rw [info_ground]; simp [words, hG]) (by rw [zero_ground]; simp [words, hG]) (all_oneCell_toArray (words_one _))

end Go.Proofs.YtjplcnbifcpebaaGreatDoor

namespace Go.Proofs.YtjplcnbifcpebaaGreatDoor
open Go.RowKit Go.Shelf
attribute [local go_sem] Oper.semAt_some

def okFill (W H : Int) (xs : List Int) (a b : Int) (ps : List Int) : Bool := askB W H xs a b ps && peaceB W a b ps
def fillV (W H : Int) (xs : List Int) (a b : Int) (ps : List Int) : List Int := if okFill W H xs a b ps then fillL W a b (cellsL W H xs) ps else []
theorem setGo_of {W H : Int} {xs : List Int} : ∀ (ps : List Int) (b : Int), (∀ x ∈ ps, b < x ∧ hasB W H xs x = true) → ps.Pairwise (· < ·) → setGo W H xs b ps = true
  | [], _, _, _ => rfl
  | c :: t, b, h, hp => by
    rw [List.pairwise_cons] at hp
    have hc := h c (by simp)
    rw [setGo, hc.2, setGo_of t c (fun x hx => ⟨hp.1 x hx, (h x (by simp [hx])).2⟩) hp.2]
    simp [hc.1]
theorem setB_of {W H : Int} {xs ps : List Int} (h : ∀ x ∈ ps, hasB W H xs x = true) (hp : ps.Pairwise (· < ·)) : setB W H xs ps = true :=
  setGo_of ps _ (fun x hx => ⟨by have := (hasB_iff.1 (h x hx)).1; omega, h x hx⟩) hp
theorem fillL_rise {W a b : Int} : ∀ (l o : List Int), o.Pairwise (· < ·) → (fillL W a b l o).Pairwise (· < ·)
  | [], _, h => h
  | _ :: t, _, h => fillL_rise t _ (fillS_rise h)
theorem fillL_set {W H a b : Int} {xs l o : List Int} (hl : ∀ x ∈ l, hasB W H xs x = true) (ho : setB W H xs o = true) : setB W H xs (fillL W a b l o) = true :=
  setB_of (fun x hx => (fillL_mem l o hx).elim (hl x) ((setB_facts ho).1 x)) (fillL_rise l o (setB_facts ho).2)
theorem len_FillPeaceful (W H : Int) (xs : List Int) (a b : Int) (ps : List Int) : (fillV W H xs a b ps).length ≤ 1000000 := by
  unfold fillV
  split
  · rename_i h
    simp only [okFill, Bool.and_eq_true] at h
    obtain ⟨hg, _, hs⟩ := ask_parts h.1
    obtain ⟨hW, hH, _, _⟩ := goodB_iff.1 hg
    have := setB_len (cells_le hW hH).2 (fillL_set (a := a) (b := b) (fun x hx => cellsL_mem.1 hx) hs)
    omega
  · simp

set_option maxRecDepth 100000 in
set_option maxHeartbeats 2000000 in
theorem spec_FillPeaceful (W H : Int) (A : Option Addr) (n c : Nat) (xs : List Int) (a b : Int) (A2 : Option Addr) (m c2 : Nat) (ps : List Int) (w : World) (ha : Rd w A n xs) (hp : Rd w A2 m ps) (hcap : m ≤ c2) :
    Calls Tryz.prog 5 #[brd W H A n c, lpr a b, .slice A2 m c2] w fun e w' => ∃ A' n' c', e = .returned (.tuple #[.slice A' n' c', .bool (okFill W H xs a b ps)]) ∧ OwnI 3 w' w.heap.size A' n' c' (fillV W H xs a b ps) ∧ Below w.heap.size w w' := by
  cases ht : askB W H xs a b ps with
  | true =>
    cases hpc : peaceB W a b ps with
    | true =>
      have NV := Lib.hid (show okFill W H xs a b ps = true by rw [okFill, ht, hpc]; rfl)
      obtain ⟨hg, hl, hs⟩ := ask_parts ht
      obtain ⟨hW, hH, _, _⟩ := goodB_iff.1 hg
      have HN := Lib.hid (cells_le hW hH)
      have HG := Lib.hid hg; have HL := Lib.hid hl; have HS := Lib.hid hs; have HPC := Lib.hid hpc
      have hm64 : m ≤ 64 := by have := setB_len (cells_le hW hH).2 hs; have := hp.1; omega
      clear hW hH hg hl hs
      go_enter Tryz.func5, Tryz.ntmps5
      go_wp2_with fail
      refine (guAsked_any W H A n c xs a b A2 m c2 ps _ ((ha.alloc _).alloc _) ((hp.alloc _).alloc _)).mono ?_
      rw [ht]
      rintro e wv ⟨rfl, hb⟩
      have hbx0 := below_box hb
      have a0 : wv.cell? ⟨w.heap.size, 0, none⟩ = some (.int .i64 W) := by simpa using newbox hbx0 0
      have a1 : wv.cell? ⟨w.heap.size, 1, none⟩ = some (.int .i64 H) := by simpa using newbox hbx0 1
      have a2 : wv.cell? ⟨w.heap.size, 2, none⟩ = some (.slice A n c) := by simpa using newbox hbx0 2
      have l0 : wv.cell? ⟨w.heap.size + 1, 0, none⟩ = some (.int .i64 a) := by simpa using newbox hb 0
      have l1 : wv.cell? ⟨w.heap.size + 1, 1, none⟩ = some (.int .i64 b) := by simpa using newbox hb 1
      have ga : w.heap.size < wv.heap.size := by have := newbox_lt hbx0; simpa using this
      have gl : w.heap.size + 1 < wv.heap.size := by simpa using newbox_lt hb
      have B := Lib.hid (below_box hbx0)
      clear hb hbx0 ht
      go_wp2_with fail
      refine (guPeace_any W H A n c xs a b A2 m c2 ps _ (hp.keep B.out) hcap HG.out (setB_facts HS.out).1).mono ?_
      rw [hpc]
      rintro e wv ⟨rfl, hb⟩
      replace a0 := cell_keep a0 ga hb; replace a1 := cell_keep a1 ga hb; replace a2 := cell_keep a2 ga hb; replace l0 := cell_keep l0 gl hb; replace l1 := cell_keep l1 gl hb; replace ga := lt_keep ga hb; replace gl := lt_keep gl hb
      replace B := Lib.hid (below_next B.out hb)
      clear hb hpc
      go_wp2_with fail
      refine (l1Own_all A2 m c2 ps _ (hp.keep B.out) (by omega)).mono ?_
      rintro e wv ⟨A3, c3, rfl, ho, hb⟩
      replace a0 := cell_keep a0 ga hb; replace a1 := cell_keep a1 ga hb; replace a2 := cell_keep a2 ga hb; replace l0 := cell_keep l0 gl hb; replace l1 := cell_keep l1 gl hb; replace ga := lt_keep ga hb; replace gl := lt_keep gl hb
      have hlo := B.out.size
      have HO := Lib.hid (ho.lower hlo)
      replace B := Lib.hid (below_next B.out hb)
      clear hb ho hlo
      go_wp2_with fail
      refine (boCells_any W H A n c xs _ (ha.keep B.out) HN.out).mono ?_
      rintro e ws ⟨A1, n1, c1, rfl, hst, hb⟩
      replace a0 := cell_keep a0 ga hb; replace a1 := cell_keep a1 ga hb; replace a2 := cell_keep a2 ga hb; replace l0 := cell_keep l0 gl hb; replace l1 := cell_keep l1 gl hb; replace ga := lt_keep ga hb; replace gl := lt_keep gl hb
      have hsw0 := B.out.size
      replace HO := Lib.hid (HO.out.keep hb)
      replace B := Lib.hid (below_next B.out hb)
      have ST := Lib.hid hst.rd
      have SL := Lib.hid hst.len
      have n9 := hst.rd.2.1
      have hwz := B.out.size
      clear hst hb ha hp hsw0
      go_wp2
      go_loopw [8, 29] (fun v i wr => ∃ (k u c' : Nat) (A' : Option Addr), k ≤ n1 ∧ i = .int .i64 k ∧ v = .slice A' u c' ∧ OwnI 3 wr w.heap.size A' u c' (fillL W a b ((cellsL W H xs).take k) ps) ∧ Below ws.heap.size ws wr) (fun _ i _ => n1 - (intOf i).toNat)
      case atStart => exact ⟨0, m, c3, A3, Nat.zero_le _, rfl, rfl, HO.out, Below.refl _ _⟩
      case round =>
        obtain ⟨k, u, c', A', hk, rfl, rfl, hown, hbw⟩ := hrel
        by_cases hlt : k < n1
        · obtain ⟨bb, oo, x, rfl, hg1, hx, x0⟩ := ST.out.at_ hlt
          have HX := Lib.hid hx
          have hin := cellsL_mem.1 (List.mem_of_getElem? hx)
          obtain ⟨o, hoe⟩ : ∃ o, o = fillL W a b ((cellsL W H xs).take k) ps := ⟨_, rfl⟩
          rw [← hoe] at hown
          have HOS := Lib.hid (show setB W H xs o = true by rw [hoe]; exact fillL_set (fun y hy => cellsL_mem.1 (List.mem_of_mem_take hy)) HS.out)
          have HOP := Lib.hid (show peaceB W a b o = true by rw [hoe]; exact fillL_peace HL.out _ _ HPC.out)
          have HNX := Lib.hid (show fillL W a b ((cellsL W H xs).take (k + 1)) ps = fillS W a b o x by rw [List.take_add_one, hx, hoe]; exact fill_snoc _ _ _ _ _ _)
          have HASK := Lib.hid (fill_ask (c := x) HL.out HOP.out)
          have HMS := Lib.hid (show ∀ y ∈ insI x o, hasB W H xs y = true from fun y hy => by
            rw [insI_mem] at hy
            rcases hy with rfl | hy
            · exact hin
            · exact (setB_facts HOS.out).1 y hy)
          have hu64 : u ≤ 64 := by have := setB_len HN.out.2 HOS.out; have := hown.len; omega
          replace x0 := cell_keep x0 hg1 hbw
          have b0 := cell_keep a0 ga hbw; have b1 := cell_keep a1 ga hbw; have b2 := cell_keep a2 ga hbw; have m0 := cell_keep l0 gl hbw; have m1 := cell_keep l1 gl hbw
          have gb := lt_keep ga hbw; have gm := lt_keep gl hbw
          have HO := Lib.hid hown; have HB := Lib.hid hbw
          have hsw := hbw.size
          clear hx hin hown hbw hoe
          go_wp2_with fail
          refine (l1Put_any w.heap.size A' u c' o x _ HO.out hu64 (by omega)).mono ?_
          rintro e wv ⟨A4, u4, c4, rfl, ho4, hb⟩
          have H4 := Lib.hid ho4
          replace b0 := cell_keep b0 gb hb; replace b1 := cell_keep b1 gb hb; replace b2 := cell_keep b2 gb hb; replace m0 := cell_keep m0 gm hb; replace m1 := cell_keep m1 gm hb; replace gb := lt_keep gb hb; replace gm := lt_keep gm hb; replace HO := Lib.hid (HO.out.keep hb); replace HB := Lib.hid (HB.out.trans (hb.mono (by omega))); replace hsw := Nat.le_trans hsw hb.size; clear hb ho4
          go_wp2_with fail
          refine (l1Has_any A' u c' x o _ HO.out.rd).mono ?_
          cases hct : o.contains x with
          | true =>
            have HF := Lib.hid (show fillS W a b o x = o by rw [fillS, if_pos (by rw [grdB_iff]; left; simpa using hct)])
            rintro e wv ⟨rfl, hb⟩
            replace b0 := cell_keep b0 gb hb; replace b1 := cell_keep b1 gb hb; replace b2 := cell_keep b2 gb hb; replace m0 := cell_keep m0 gm hb; replace m1 := cell_keep m1 gm hb; replace gb := lt_keep gb hb; replace gm := lt_keep gm hb; replace HO := Lib.hid (HO.out.keep hb); replace HB := Lib.hid (HB.out.trans (hb.mono (by omega))); replace hsw := Nat.le_trans hsw hb.size; clear hb hct
            go_wp2
            go_roundw
            case rel => exact ⟨k + 1, u, c', A', by omega, by go_num, rfl, by rw [HNX.out, HF.out]; exact HO.out, HB.out⟩
            case measure => simp [intOf]; omega
          | false =>
            have HQ := Lib.hid (show peaceB W a b (insI x o) = !grdB W a b o x by have := HASK.out; rw [hct] at this; simpa using this)
            rintro e wv ⟨rfl, hb⟩
            replace H4 := Lib.hid (H4.out.keep hb)
            replace b0 := cell_keep b0 gb hb; replace b1 := cell_keep b1 gb hb; replace b2 := cell_keep b2 gb hb; replace m0 := cell_keep m0 gm hb; replace m1 := cell_keep m1 gm hb; replace gb := lt_keep gb hb; replace gm := lt_keep gm hb; replace HO := Lib.hid (HO.out.keep hb); replace HB := Lib.hid (HB.out.trans (hb.mono (by omega))); replace hsw := Nat.le_trans hsw hb.size; clear hb hct
            go_wp2_with fail
            refine (guPeace_any W H A n c xs a b A4 u4 c4 (insI x o) _ H4.out.rd H4.out.cap HG.out HMS.out).mono ?_
            rw [HQ.out]
            rintro e wv ⟨rfl, hb⟩
            replace H4 := Lib.hid (H4.out.keep hb)
            replace b0 := cell_keep b0 gb hb; replace b1 := cell_keep b1 gb hb; replace b2 := cell_keep b2 gb hb; replace m0 := cell_keep m0 gm hb; replace m1 := cell_keep m1 gm hb; replace gb := lt_keep gb hb; replace gm := lt_keep gm hb; replace HO := Lib.hid (HO.out.keep hb); replace HB := Lib.hid (HB.out.trans (hb.mono (by omega))); replace hsw := Nat.le_trans hsw hb.size; clear hb
            cases hgd : grdB W a b o x with
            | true =>
              have HF := Lib.hid (show fillS W a b o x = o by rw [fillS, hgd]; rfl)
              clear hgd
              go_wp2
              go_roundw
              case rel => exact ⟨k + 1, u, c', A', by omega, by go_num, rfl, by rw [HNX.out, HF.out]; exact HO.out, HB.out⟩
              case measure => simp [intOf]; omega
            | false =>
              have HF := Lib.hid (show fillS W a b o x = insI x o by rw [fillS, hgd]; rfl)
              clear hgd
              go_wp2
              go_roundw
              case rel => exact ⟨k + 1, u4, c4, A4, by omega, by go_num, rfl, by rw [HNX.out, HF.out]; exact H4.out, HB.out⟩
              case measure => simp [intOf]; omega
        · have e : k = n1 := by omega
          subst e
          have e2 : (cellsL W H xs).take k = cellsL W H xs := List.take_of_length_le (by have := SL.out; omega)
          rw [e2] at hown
          have HO := Lib.hid hown; have HB := Lib.hid hbw
          clear hown hbw e2
          go_wp2
          go_ret2
          exact ⟨A', u, c', by rw [NV.out]; rfl, by rw [fillV, NV.out]; exact HO.out, B.out.trans (HB.out.mono hwz)⟩
    | false =>
      have NV := Lib.hid (show okFill W H xs a b ps = false by rw [okFill, hpc, Bool.and_false])
      have HT := Lib.hid ht
      go_enter Tryz.func5, Tryz.ntmps5
      go_wp2_with fail
      refine (guAsked_any W H A n c xs a b A2 m c2 ps _ ((ha.alloc _).alloc _) ((hp.alloc _).alloc _)).mono ?_
      rw [ht]
      rintro e wv ⟨rfl, hb⟩
      have hbx0 := below_box hb
      have a0 : wv.cell? ⟨w.heap.size, 0, none⟩ = some (.int .i64 W) := by simpa using newbox hbx0 0
      have a1 : wv.cell? ⟨w.heap.size, 1, none⟩ = some (.int .i64 H) := by simpa using newbox hbx0 1
      have a2 : wv.cell? ⟨w.heap.size, 2, none⟩ = some (.slice A n c) := by simpa using newbox hbx0 2
      have l0 : wv.cell? ⟨w.heap.size + 1, 0, none⟩ = some (.int .i64 a) := by simpa using newbox hb 0
      have l1 : wv.cell? ⟨w.heap.size + 1, 1, none⟩ = some (.int .i64 b) := by simpa using newbox hb 1
      have B := Lib.hid (below_box hbx0)
      clear hb hbx0 ht
      go_wp2_with fail
      refine (guPeace_any W H A n c xs a b A2 m c2 ps _ (hp.keep B.out) hcap (ask_parts HT.out).1 (setB_facts (ask_parts HT.out).2.2).1).mono ?_
      rw [hpc]
      rintro e wv ⟨rfl, hb⟩
      replace B := Lib.hid (below_next B.out hb)
      clear hb
      go_wp2
      go_ret2
      exact ⟨none, 0, 0, by rw [NV.out]; rfl, by rw [fillV, NV.out]; exact OwnI.none_ _ _ _, B.out⟩
  | false =>
    have NV := Lib.hid (show okFill W H xs a b ps = false by rw [okFill, ht, Bool.false_and])
    go_enter Tryz.func5, Tryz.ntmps5
    go_wp2_with fail
    refine (guAsked_any W H A n c xs a b A2 m c2 ps _ ((ha.alloc _).alloc _) ((hp.alloc _).alloc _)).mono ?_
    rw [ht]
    rintro e wv ⟨rfl, hb⟩
    have B := Lib.hid (below_box (below_box hb))
    clear hb
    go_wp2
    go_ret2
    exact ⟨none, 0, 0, by rw [NV.out]; rfl, by rw [fillV, NV.out]; exact OwnI.none_ _ _ _, B.out⟩
end Go.Proofs.YtjplcnbifcpebaaGreatDoor

namespace Go.Proofs.YtjplcnbifcpebaaGreatDoor
open Go.RowKit Go.Shelf
attribute [local go_sem] Oper.semAt_some

theorem ano_eq (s t : Nat) (hs : s < 18446744073709551616) (ht : t < 18446744073709551616) : bits BinOp.andNot IntKind.u64 (s : Int) (t : Int) = ((ano s t : Nat) : Int) := u64_andNot_nat s t hs ht
set_option maxRecDepth 100000 in
set_option maxHeartbeats 2000000 in
theorem filled_any (W H : Int) (xs : List Int) (a b : Int) (s : Nat) (w : World) (hg : goodB W H xs = true) (hs : s < 18446744073709551616) (hh : ∀ x ∈ bitsL s, hasB W H xs x = true) (hT : Tab64 w ∧ 0 < w.heap.size) :
    Calls Tryz.prog 26 #[.agg (words (glG W H xs a b)).toArray, .int .u64 (s : Int)] w fun e w' => ∃ s' : Nat, e = .returned (.int .u64 (s' : Int)) ∧ s' < 18446744073709551616 ∧ bitsL s' = fillL W a b (cellsL W H xs) (bitsL s) ∧ Below w.heap.size w w' := by
  have HG := Lib.hid hg
  have HTab := Lib.hid hT
  have HI0 := Lib.hid (FillI.start (a := a) (b := b) hg hs hh)
  obtain ⟨F, hF⟩ : ∃ F, F = fillL W a b (cellsL W H xs) (bitsL s) := ⟨_, rfl⟩
  rw [← hF] at HI0 ⊢
  obtain ⟨G, hGe⟩ : ∃ G, G = glG W H xs a b := ⟨_, rfl⟩
  rw [← hGe] at HI0 ⊢
  have HGE := Lib.hid hGe
  have hG65 : Hid (G.length = 65) := Lib.hid (by rw [hGe]; exact glG_len _ _ _ _ _)
  have hGlt : Hid (∀ x ∈ G, x < 18446744073709551616) := Lib.hid (by rw [hGe]; exact glG_lt hg)
  obtain ⟨al, hal⟩ : ∃ al, al = allS W H xs := ⟨_, rfl⟩
  have hg0 : (words G)[0]? = some (.int .u64 ((al : Nat) : Int)) := by rw [hGe, glG, gl, hal]; rfl
  have hal9 : al < 18446744073709551616 := by rw [hal]; exact set_lt (cells_64 hg)
  have hgl9 : grdL G (bitsL s) < 18446744073709551616 := grdL_lt hGlt.out _ (fun x hx => ⟨(bitsL_mem.1 hx).1, (bitsL_mem.1 hx).2.1⟩)
  rw [← hal] at HI0
  have hand := ano_eq al (grdL G (bitsL s)) hal9 hgl9
  have hs9 : s < 18446744073709551616 := hs
  clear hF hGe hal hg hh hT hs
  refine (callsIn_wide (n := 9)).1 ?_
  refine callsIn_of_wp Tryz.func26 rfl trivial ?_ rfl
  simp only [Tryz.ntmps26, List.size_toArray, List.length_cons, List.length_nil, Nat.reduceAdd, Nat.reduceSub, Array.replicate_succ, Array.replicate_zero, List.push_toArray, List.append_toArray, List.nil_append, List.cons_append]
  obtain ⟨Wa, hWa⟩ : ∃ Wa, Wa = w.alloc (.cells (words G).toArray 48) := ⟨_, rfl⟩
  have HH := Lib.hid (show Wa.heap[w.heap.size]? = some (.cells (words G).toArray 48 (0, 0)) by rw [hWa]; exact World.alloc_heap_new _ _)
  have hc0 : Wa.cell? ⟨w.heap.size, 0, none⟩ = some (.int .u64 ((al : Nat) : Int)) := by
    rw [cell_of_row _ _ 0 _ _ _ HH.out, List.getElem?_toArray, hg0]
  have hgl : w.heap.size < Wa.heap.size := by rw [hWa]; simp
  have B := Lib.hid (show Below w.heap.size w Wa by rw [hWa]; exact below_new (Below.refl _ _) _)
  clear hg0
  gi_wp2
  rw [← hWa]
  clear hWa
  refine wpIn_wide.2 ?_
  refine wp_region_held_drew (S := fun w' => w'.heap[w.heap.size]? = some (.cells (words G).toArray 48 (0, 0)) ∧ w'.cell? ⟨w.heap.size, 0, none⟩ = some (.int .u64 ((al : Nat) : Int))) (by kernel_rfl) ?_ (fun hHeld => ?_)
  · (try dsimp only)
    exact ⟨HH.out, hc0⟩
  refine wpAnyH_take (i := 0) (oi := ⟨_, _, _, _, _, _⟩) (v := ?_) rfl (by kernel_rfl) (by kernel_rfl) (by kernel_rfl) (fun _ _ _ h => h) (Or.inl ⟨by rfl, ?_⟩) (by assumption) ?_
  rotate_left
  · intro w hSw
    (try dsimp only at hSw)
    go_simp
    (try with_reducible rfl)
  (try simp only [Act.put, List.setIfInBounds_toArray, List.set_cons_zero, List.set_cons_succ])
  refine wpAnyH_take (i := 1) (oi := ⟨_, _, _, _, _, _⟩) (v := ?_) rfl (by kernel_rfl) (by kernel_rfl) (by kernel_rfl) (fun _ _ _ h => h) (Or.inl ⟨by rfl, ?_⟩) (by assumption) ?_
  rotate_left
  · intro w hSw
    (try dsimp only at hSw)
    go_simp
    (try with_reducible rfl)
  (try simp only [Act.put, List.setIfInBounds_toArray, List.set_cons_zero, List.set_cons_succ])
  refine wpAnyH_take (i := 2) (oi := ⟨_, _, _, _, _, _⟩) (v := .agg (words G).toArray) rfl (by kernel_rfl) (by kernel_rfl) (by kernel_rfl) (fun _ _ _ h => h) (yields_load _ _ _ rfl (by kernel_rfl) rfl (fun w' h => load_groundW hG65.out h.1)) (by assumption) ?_
  (try simp only [Act.put, List.setIfInBounds_toArray, List.set_cons_zero, List.set_cons_succ])
  refine wpAnyH_take (i := 3) (oi := ⟨_, _, _, _, _, _⟩) (v := ?_) rfl (by kernel_rfl) (by kernel_rfl) (by kernel_rfl) (fun _ _ _ h => h) (Or.inl ⟨by rfl, ?_⟩) (by assumption) ?_
  rotate_left
  · intro w hSw
    (try dsimp only at hSw)
    go_simp
    (try with_reducible rfl)
  (try simp only [Act.put, List.setIfInBounds_toArray, List.set_cons_zero, List.set_cons_succ])
  refine wpAnyH_ready (rs := [4]) (by kernel_rfl) (by simp) ?_
  refine AllReadyH.cons (o := ⟨_, _, _, _, _, _⟩) rfl (fun K hK => ?_) AllReadyH.nil
  go_simp
  refine (guardedBy_any G hG65.out hGlt.out s hs9 _ (by exact (tab_keep HTab.out B.out).1) (by exact (tab_keep HTab.out B.out).2)).mono ?_
  rintro e w2 ⟨rfl, hb⟩
  (try replace hb := below_undrew hb)
  replace hc0 := cell_keep hc0 hgl hb; replace HH := Lib.hid ((hb.block w.heap.size hgl).trans HH.out); replace hgl := lt_keep hgl hb; replace B := Lib.hid (below_next B.out hb)
  clear hb
  dsimp only
  refine hK.out _ _ ?_ (fun hHeld => ?_)
  · (try dsimp only)
    exact ⟨HH.out, hc0⟩
  clear hK K
  (try simp only [Act.put, List.setIfInBounds_toArray, List.set_cons_zero, List.set_cons_succ])
  refine wpAnyH_take (i := 5) (oi := ⟨_, _, _, _, _, _⟩) (v := ?_) rfl (by kernel_rfl) (by kernel_rfl) (by kernel_rfl) (fun _ _ _ h => h) (Or.inl ⟨by rfl, ?_⟩) (by assumption) ?_
  rotate_left
  · intro w hSw
    (try dsimp only at hSw)
    go_simp
    (try with_reducible rfl)
  (try simp only [Act.put, List.setIfInBounds_toArray, List.set_cons_zero, List.set_cons_succ])
  refine wpAnyH_take (i := 6) (oi := ⟨_, _, _, _, _, _⟩) (v := ?_) rfl (by kernel_rfl) (by kernel_rfl) (by kernel_rfl) (fun _ _ _ h => h) (Or.inl ⟨by rfl, ?_⟩) (by assumption) ?_
  rotate_left
  · intro w hSw
    (try dsimp only at hSw)
    go_simp
    (try with_reducible rfl)
  (try simp only [Act.put, List.setIfInBounds_toArray, List.set_cons_zero, List.set_cons_succ])
  refine wpAnyH_done (by kernel_rfl) ?_ _
  skip
  clear hHeld hand
  obtain ⟨l0, hl0⟩ : ∃ l0, l0 = ano al (grdL G (bitsL s)) := ⟨_, rfl⟩
  rw [← hl0] at HI0 ⊢
  clear hl0
  have hs2 := B.out.size
  gi_wp2
  gi_loopw [1, 5] (fun sv lv wr => ∃ (s' left : Nat), sv = .int .u64 (s' : Int) ∧ lv = .int .u64 (left : Int) ∧ FillI W H xs a b F s' left ∧ Below w2.heap.size w2 wr) (fun _ lv _ => (intOf lv).toNat)
  case atStart => exact ⟨s, l0, rfl, rfl, HI0.out, Below.refl _ _⟩
  case round =>
    obtain ⟨s', left, rfl, rfl, hI, hbw⟩ := hrel
    have HBW := Lib.hid (B.out.trans (hbw.mono hs2))
    have HHr := Lib.hid ((hbw.block w.heap.size hgl).trans HH.out)
    by_cases hz : left = 0
    · subst hz
      have HV := Lib.hid (hI.done HG.out)
      have hs'9 := hI.slt
      clear hI hbw
      have h00 : ((((0 : Nat) : Int)) != 0) = false := rfl
      gi_wp2
      go_ret
      exact ⟨s', rfl, hs'9, HV.out, HBW.out⟩
    · have hz0 : ((left : Int) == 0) = false := by simp; omega
      have hz1 : ¬ ((left : Int) = 0) := by omega
      obtain ⟨hk, hb, hlow⟩ := ctz_facts hz hI.llt
      have hL := least_any left hI.llt wr (tab_keep HTab.out HBW.out).1
      generalize Lib.ctz 64 left = k at hk hb hlow hL
      have hstep := hI.step HG.out hk hb hlow
      rw [← HGE.out] at hstep
      have hgc := grdC_lt hGlt.out (x := (k : Int)) (by omega) (by omega)
      have hdec := ano_lt (t := grdC G (k : Int)) hI.llt hgc hb (by rw [grdC_bit]; right; omega)
      have hand := ano_eq left (grdC G (k : Int)) hI.llt hgc
      have hwith := withS_any s' k hI.slt hk wr
      have hfrom := guardedFrom_any G hG65.out hGlt.out (k : Int) (by omega) (by omega) wr
      have hld := load_groundW hG65.out HHr.out
      have HI := Lib.hid hstep; have HD := Lib.hid hdec; have HB := Lib.hid hbw
      clear hI hstep hdec hlow hb hbw hz hk hgc
      gi_wp2
      refine ⟨trivial, (callsIn_wide.2 hL).mono ?_⟩
      rintro e w' ⟨rfl, rfl⟩
      clear hL
      gi_wp2
      refine ⟨trivial, (callsIn_wide.2 hwith).mono ?_⟩
      rintro e w' ⟨rfl, rfl⟩
      clear hwith
      gi_wp2_with (refine wpIn_load_run 48 _ _ _ rfl rfl hld ?_)
      refine ⟨trivial, (callsIn_wide.2 hfrom).mono ?_⟩
      rintro e w' ⟨rfl, hB5⟩
      clear hfrom hld
      replace HB := Lib.hid (below_next HB.out hB5)
      clear hB5
      gi_wp2
      go_roundw
      case rel => exact ⟨_, _, rfl, rfl, HI.out, HB.out⟩
      case measure => have := HD.out; simp [intOf]; omega

set_option maxRecDepth 100000 in
set_option maxHeartbeats 2000000 in
theorem impl_FillPeaceful (W H : Int) (A : Option Addr) (n c : Nat) (xs : List Int) (a b : Int) (A2 : Option Addr) (m c2 : Nat) (ps : List Int) (w : World) (ha : Rd w A n xs) (hp : Rd w A2 m ps) (_ : m ≤ c2) (hT : Tab64 w ∧ 0 < w.heap.size) :
    Calls Tryz.prog 9 #[brd W H A n c, lpr a b, .slice A2 m c2] w fun e w' => ∃ A' n' c', e = .returned (.tuple #[.slice A' n' c', .bool (okFill W H xs a b ps)]) ∧ OwnI 3 w' w.heap.size A' n' c' (fillV W H xs a b ps) ∧ Below w.heap.size w w' := by
  cases ht : askB W H xs a b ps with
  | true =>
    have HT := Lib.hid ht
    obtain ⟨hg, hl, hsb⟩ := ask_parts ht
    have HG := Lib.hid hg; have HL := Lib.hid hl; have HS := Lib.hid hsb
    have HTab := Lib.hid hT
    clear hg hl hsb hT
    refine (callsIn_wide (n := 9)).1 ?_
    refine callsIn_of_wp Tryz.func9 rfl trivial ?_ rfl
    simp only [Tryz.ntmps9, List.size_toArray, List.length_cons, List.length_nil, Nat.reduceAdd, Nat.reduceSub, Array.replicate_succ, Array.replicate_zero, List.push_toArray, List.append_toArray, List.nil_append, List.cons_append]
    gi_wp2
    refine ⟨trivial, (callsIn_wide.2 (isSetOn_any W H A n c xs a b A2 m c2 ps _ ((ha.alloc _).alloc _) ((hp.alloc _).alloc _))).mono ?_⟩
    rw [ht]
    rintro e wv ⟨rfl, hb⟩
    have hbx0 := below_box hb
    have a0 : wv.cell? ⟨w.heap.size, 0, none⟩ = some (.int .i64 W) := by simpa using newbox hbx0 0
    have a1 : wv.cell? ⟨w.heap.size, 1, none⟩ = some (.int .i64 H) := by simpa using newbox hbx0 1
    have a2 : wv.cell? ⟨w.heap.size, 2, none⟩ = some (.slice A n c) := by simpa using newbox hbx0 2
    have l0 : wv.cell? ⟨w.heap.size + 1, 0, none⟩ = some (.int .i64 a) := by simpa using newbox hb 0
    have l1 : wv.cell? ⟨w.heap.size + 1, 1, none⟩ = some (.int .i64 b) := by simpa using newbox hb 1
    have B := Lib.hid (below_box hbx0)
    clear hb hbx0 ht
    have hGr := groundOf_any W H A n c xs a b wv (ha.keep B.out) HG.out HL.out (tab_keep HTab.out B.out).1 (tab_keep HTab.out B.out).2
    gi_wp2
    refine ⟨trivial, (callsIn_wide.2 hGr).mono ?_⟩
    rintro e w2 ⟨rfl, hB2⟩
    clear hGr a0 a1 a2 l0 l1
    obtain ⟨G, hG⟩ : ∃ G, G = glG W H xs a b := ⟨_, rfl⟩
    rw [show gl W H xs a b (cellsL W H xs) = G from hG.symm]
    have HGE := Lib.hid hG
    have hG65 : Hid (G.length = 65) := Lib.hid (by rw [hG]; exact glG_len _ _ _ _ _)
    have hGlt : Hid (∀ x ∈ G, x < 18446744073709551616) := Lib.hid (by rw [hG]; exact glG_lt HG.out)
    obtain ⟨s, hs⟩ : ∃ s, s = setBits (ps.map Int.toNat) := ⟨_, rfl⟩
    have hs64 : s < 18446744073709551616 := by rw [hs]; exact set_lt (set_lt64 HG.out HS.out)
    have HSB := Lib.hid (show bitsL s = ps by rw [hs]; exact setB_bits HG.out HS.out)
    have HV := Lib.hid (show freeB G s = peaceB W a b ps by rw [hG, hs]; exact peaceB_iff HG.out HL.out HS.out)
    have hst := store_groundW hG65.out w2
    obtain ⟨Wa, hWa⟩ : ∃ Wa, Wa = w2.alloc (.cells (words G).toArray 48) := ⟨_, rfl⟩
    have HH := Lib.hid (show Wa.heap[w2.heap.size]? = some (.cells (words G).toArray 48 (0, 0)) by rw [hWa]; exact World.alloc_heap_new _ _)
    have hgl : w2.heap.size < Wa.heap.size := by rw [hWa]; simp
    have hle := Nat.le_trans B.out.size hB2.size
    replace B := Lib.hid (show Below w.heap.size w Wa by rw [hWa]; exact (B.out.trans (hB2.mono B.out.size)).alloc hle _)
    rw [← hWa] at hst
    have hS := setOf_any A2 m c2 ps Wa (hp.keep B.out) (set_lt64 HG.out HS.out)
    rw [← hs] at hS
    clear hWa hB2 hG hs
    gi_wp2_with (refine wpIn_store_run 48 _ _ _ _ rfl rfl rfl hst ?_)
    clear hst
    refine ⟨trivial, (callsIn_wide.2 hS).mono ?_⟩
    rintro e w3 ⟨rfl, hb⟩
    clear hS
    replace HH := Lib.hid ((hb.block w2.heap.size hgl).trans HH.out); replace hgl := lt_keep hgl hb; replace B := Lib.hid (below_next B.out hb)
    clear hb
    have hld := load_groundW hG65.out HH.out
    have hF := isFree_any G hG65.out hGlt.out s hs64 w3 (tab_keep HTab.out B.out).1 (tab_keep HTab.out B.out).2
    gi_wp2_with (refine wpIn_load_run 48 _ _ _ rfl rfl hld ?_)
    refine ⟨trivial, (callsIn_wide.2 hF).mono ?_⟩
    rw [HV.out]
    rintro e w4 ⟨rfl, hb⟩
    clear hF hld
    replace HH := Lib.hid ((hb.block w2.heap.size hgl).trans HH.out); replace B := Lib.hid (below_next B.out hb)
    clear hb
    cases hpc : peaceB W a b ps with
    | true =>
      have NV := Lib.hid (show okFill W H xs a b ps = true by rw [okFill, HT.out, hpc]; rfl)
      clear hpc
      have hld := load_groundW hG65.out HH.out
      have hFi := filled_any W H xs a b s w4 HG.out hs64 (fun x hx => (setB_facts HS.out).1 x (by rw [← HSB.out]; exact hx)) (tab_keep HTab.out B.out)
      rw [← HGE.out, HSB.out] at hFi
      gi_wp2_with (refine wpIn_load_run 48 _ _ _ rfl rfl hld ?_)
      refine ⟨trivial, (callsIn_wide.2 hFi).mono ?_⟩
      rintro e w5 ⟨s', rfl, hs'9, hs'L, hb⟩
      clear hFi hld
      replace B := Lib.hid (below_next B.out hb)
      clear hb
      have hC := cells_any s' hs'9 w5 (tab_keep HTab.out B.out).1 (tab_keep HTab.out B.out).2
      rw [hs'L] at hC
      gi_wp2
      refine ⟨trivial, (callsIn_wide.2 hC).mono ?_⟩
      rintro e w6 ⟨A', n', c', rfl, ho, hb⟩
      clear hC
      have HO := Lib.hid (ho.lower B.out.size)
      replace B := Lib.hid (below_next B.out hb)
      clear hb ho
      gi_wp2
      go_ret2
      exact ⟨A', n', c', by rw [NV.out]; rfl, by rw [fillV, NV.out]; exact HO.out, B.out⟩
    | false =>
      have NV := Lib.hid (show okFill W H xs a b ps = false by rw [okFill, hpc, Bool.and_false])
      clear hpc
      gi_wp2
      go_ret2
      exact ⟨none, 0, 0, by rw [NV.out]; rfl, by rw [fillV, NV.out]; exact OwnI.none_ _ _ _, B.out⟩
  | false =>
    have NV := Lib.hid (show okFill W H xs a b ps = false by rw [okFill, ht, Bool.false_and])
    clear hT
    go_enter Tryz.func9, Tryz.ntmps9
    go_wp2_with fail
    refine (isSetOn_any W H A n c xs a b A2 m c2 ps _ ((ha.alloc _).alloc _) ((hp.alloc _).alloc _)).mono ?_
    rw [ht]
    rintro e wv ⟨rfl, hb⟩
    have B := Lib.hid (below_box (below_box hb))
    clear hb
    go_wp2
    go_ret2
    exact ⟨none, 0, 0, by rw [NV.out]; rfl, by rw [fillV, NV.out]; exact OwnI.none_ _ _ _, B.out⟩
end Go.Proofs.YtjplcnbifcpebaaGreatDoor
