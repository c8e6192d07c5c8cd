/-
  Pure: the number of one bits of a word as bits.OnesCount64 counts them, and of a set of cells.
-/
namespace Go.Proofs.YtnmmgalidkambaaGreatDoor

/-- The number of one bits among the lowest n. -/
def popN : Nat → Nat → Nat
  | 0, _ => 0
  | n + 1, x => x % 2 + popN n (x / 2)

theorem popN_append : ∀ (a b x : Nat), popN (a + b) x = popN a (x % 2 ^ a) + popN b (x / 2 ^ a)
  | 0, b, x => by simp [popN]
  | a + 1, b, x => by
    rw [show a + 1 + b = (a + b) + 1 by omega]
    simp only [popN]
    rw [popN_append a b (x / 2)]
    have e1 : x % 2 ^ (a + 1) % 2 = x % 2 := by
      rw [Nat.pow_succ, Nat.mul_comm]
      rw [Nat.mod_mul_right_mod]
    have e2 : x % 2 ^ (a + 1) / 2 = x / 2 % 2 ^ a := by
      rw [Nat.pow_succ, Nat.mul_comm, Nat.mod_mul_right_div_self]
    have e3 : x / 2 / 2 ^ a = x / 2 ^ (a + 1) := by
      rw [Nat.div_div_eq_div_mul, Nat.pow_succ, Nat.mul_comm]
    rw [e1, e2, e3]; omega

theorem and_split (q r m c : Nat) (hr : r < 256) (hc : c < 256) : (256 * q + r) &&& (256 * m + c) = 256 * (q &&& m) + (r &&& c) := by
  have h1 := Nat.and_div_two_pow (a := 256 * q + r) (b := 256 * m + c) (n := 8)
  have h2 := Nat.and_mod_two_pow (a := 256 * q + r) (b := 256 * m + c) (n := 8)
  have e1 : (256 * q + r) / 2 ^ 8 = q := by omega
  have e2 : (256 * m + c) / 2 ^ 8 = m := by omega
  have e3 : (256 * q + r) % 2 ^ 8 = r := by omega
  have e4 : (256 * m + c) % 2 ^ 8 = c := by omega
  rw [e1, e2] at h1; rw [e3, e4] at h2
  omega

theorem shr_split (k q r m c : Nat) (hk : k ≤ 8) (hr : r < 256) (hc : c < 2 ^ (8 - k)) : ((256 * q + r) / 2 ^ k) &&& (256 * m + c) = 256 * ((q / 2 ^ k) &&& m) + ((r / 2 ^ k) &&& c) := by
  have hp : 2 ^ k * 2 ^ (8 - k) = 256 := by rw [← Nat.pow_add, show k + (8 - k) = 8 by omega]
  have hc8 : c < 256 := Nat.lt_of_lt_of_le hc (by rw [← hp]; exact Nat.le_mul_of_pos_left _ (Nat.two_pow_pos k))
  have hX : (256 * q + r) / 2 ^ k = 256 * (q / 2 ^ k) + ((256 * q + r) / 2 ^ k) % 256 := by
    have h1 : (256 * q + r) / 2 ^ k / 256 = q / 2 ^ k := by
      have e0 : (256 * q + r) / 256 = q := by omega
      rw [Nat.div_div_eq_div_mul, Nat.mul_comm (2 ^ k), ← Nat.div_div_eq_div_mul, e0]
    have := Nat.div_add_mod ((256 * q + r) / 2 ^ k) 256
    rw [h1] at this; omega
  rw [hX, and_split _ _ _ _ (Nat.mod_lt _ (by decide)) hc8]
  congr 1
  -- the low byte behind the mask
  have hz : ∀ y, y &&& c = (y % 2 ^ (8 - k)) &&& c := by
    intro y
    have h2 := Nat.and_mod_two_pow (a := y) (b := c) (n := 8 - k)
    rw [Nat.mod_eq_of_lt hc, Nat.mod_eq_of_lt (Nat.lt_of_le_of_lt Nat.and_le_right hc)] at h2
    exact h2
  rw [hz ((256 * q + r) / 2 ^ k % 256)]
  have e5 : (256 * q + r) / 2 ^ k % 256 % 2 ^ (8 - k) = r / 2 ^ k := by
    rw [Nat.mod_mod_of_dvd _ ⟨2 ^ k, by rw [Nat.mul_comm, hp]⟩]
    rw [← Nat.mod_mul_right_div_self, hp]
    congr 1; omega
  rw [e5]

/-- A mask of n bytes. -/
def maskN (c : Nat) : Nat → Nat
  | 0 => 0
  | n + 1 => 256 * maskN c n + c

def sw1 (n x : Nat) : Nat := ((x / 2) &&& maskN 85 n) + (x &&& maskN 85 n)
def sw2 (n x : Nat) : Nat := ((x / 4) &&& maskN 51 n) + (x &&& maskN 51 n)
def sw3 (n x : Nat) : Nat := ((x / 16) + x) &&& maskN 15 n
def b1 (r : Nat) : Nat := ((r / 2) &&& 85) + (r &&& 85)
def b2 (r : Nat) : Nat := ((r / 4) &&& 51) + (r &&& 51)

theorem sw1_step (n q r : Nat) (hr : r < 256) : sw1 (n + 1) (256 * q + r) = 256 * sw1 n q + b1 r := by
  have hm : maskN 85 (n + 1) = 256 * maskN 85 n + 85 := rfl
  unfold sw1 b1
  rw [hm]
  have h1 := shr_split 1 q r (maskN 85 n) 85 (by decide) hr (by decide)
  have h2 := and_split q r (maskN 85 n) 85 hr (by decide)
  simp only [Nat.pow_one] at h1
  rw [h1, h2]; omega

theorem sw2_step (n q r : Nat) (hr : r < 256) : sw2 (n + 1) (256 * q + r) = 256 * sw2 n q + b2 r := by
  have hm : maskN 51 (n + 1) = 256 * maskN 51 n + 51 := rfl
  unfold sw2 b2
  rw [hm]
  have h1 := shr_split 2 q r (maskN 51 n) 51 (by decide) hr (by decide)
  have h2 := and_split q r (maskN 51 n) 51 hr (by decide)
  simp only [show (2:Nat) ^ 2 = 4 by decide] at h1
  rw [h1, h2]; omega

theorem and15 (x : Nat) : x &&& 15 = x % 16 := Nat.and_two_pow_sub_one_eq_mod x 4

theorem sw3_step (n q r : Nat) (hr : r < 256) (h0 : r % 16 ≤ 4) (h1 : r / 16 ≤ 4) (h2 : q % 16 ≤ 4) : sw3 (n + 1) (256 * q + r) = 256 * sw3 n q + (r / 16 + r % 16) := by
  have hm : maskN 15 (n + 1) = 256 * maskN 15 n + 15 := rfl
  unfold sw3
  rw [hm]
  have e : (256 * q + r) / 16 + (256 * q + r) = 256 * (q / 16 + q) + (16 * (q % 16 + r / 16) + (r / 16 + r % 16)) := by omega
  rw [e, and_split _ _ _ _ (by omega) (by decide), and15]
  congr 1
  omega

theorem byte_fact : ∀ r : Fin 256, b1 r.val < 256 ∧ b2 (b1 r.val) % 16 ≤ 4 ∧ b2 (b1 r.val) / 16 ≤ 4 ∧ b2 (b1 r.val) / 16 + b2 (b1 r.val) % 16 = popN 8 r.val := by decide +kernel

/-- The three steps, byte by byte. -/
theorem sw_step (n q r : Nat) (hr : r < 256) (hq : sw2 n (sw1 n q) % 16 ≤ 4) :
    sw2 (n + 1) (sw1 (n + 1) (256 * q + r)) % 16 ≤ 4 ∧ sw3 (n + 1) (sw2 (n + 1) (sw1 (n + 1) (256 * q + r))) = 256 * sw3 n (sw2 n (sw1 n q)) + popN 8 r := by
  obtain ⟨f1, f2, f3, f4⟩ := byte_fact ⟨r, hr⟩
  simp only at f1 f2 f3 f4
  rw [sw1_step n q r hr, sw2_step n _ _ f1]
  refine ⟨by omega, ?_⟩
  rw [sw3_step n _ _ (by omega) f2 f3 hq, f4]

theorem popN_le : ∀ n x, popN n x ≤ n
  | 0, _ => by simp [popN]
  | n + 1, x => by simp only [popN]; have := popN_le n (x / 2); omega

/-- All bytes. -/
def bytesOf : Nat → Nat → Nat
  | 0, _ => 0
  | n + 1, x => 256 * bytesOf n (x / 256) + popN 8 (x % 256)

theorem bytesOf_zero (x : Nat) : bytesOf 0 x = 0 := rfl
theorem bytesOf_succ (n x : Nat) : bytesOf (n + 1) x = 256 * bytesOf n (x / 256) + popN 8 (x % 256) := rfl

theorem sw_all : ∀ n x, x < 256 ^ n → sw2 n (sw1 n x) % 16 ≤ 4 ∧ sw3 n (sw2 n (sw1 n x)) = bytesOf n x
  | 0, x, h => by
    have : x = 0 := by simpa using h
    subst this; decide
  | n + 1, x, h => by
    have hx : x = 256 * (x / 256) + x % 256 := by omega
    obtain ⟨i1, i2⟩ := sw_all n (x / 256) (by rw [Nat.pow_succ] at h; exact Nat.div_lt_of_lt_mul (by omega))
    obtain ⟨j1, j2⟩ := sw_step n (x / 256) (x % 256) (by omega) i1
    rw [← hx] at j1 j2
    exact ⟨j1, by rw [j2, i2, bytesOf]⟩

theorem popN_bytes (n x : Nat) (k : Nat) (h : n = 8 + k) : popN n x = popN 8 (x % 256) + popN k (x / 256) := by
  subst h; exact popN_append 8 k x

theorem div_of_split (M a q X : Nat) (e : X = a + M * q) (h : a < M) : X / M = q := by
  rw [e, Nat.add_mul_div_left _ _ (by omega), Nat.div_eq_of_lt h]; omega

theorem swar_sum (B0 B1 B2 B3 B4 B5 B6 B7 x x1 x2 x3 : Nat) (h0 : B0 ≤ 8) (h1 : B1 ≤ 8) (h2 : B2 ≤ 8) (h3 : B3 ≤ 8) (h4 : B4 ≤ 8) (h5 : B5 ≤ 8) (h6 : B6 ≤ 8) (h7 : B7 ≤ 8)
    (e : x = B0 + 256 * (B1 + 256 * (B2 + 256 * (B3 + 256 * (B4 + 256 * (B5 + 256 * (B6 + 256 * B7)))))))
    (e1 : x1 = x + x / 256) (e2 : x2 = x1 + x1 / 65536) (e3 : x3 = x2 + x2 / 4294967296) :
    x3 % 128 = B0 + B1 + B2 + B3 + B4 + B5 + B6 + B7 ∧ x3 < 9223372036854775808 := by
  have d1 := div_of_split 256 B0 _ x e (by omega)
  rw [d1] at e1
  have d2 := div_of_split 65536 ((B0 + B1) + 256 * (B1 + B2)) ((B2 + B3) + 256 * ((B3 + B4) + 256 * ((B4 + B5) + 256 * ((B5 + B6) + 256 * ((B6 + B7) + 256 * B7))))) x1 (by omega) (by omega)
  rw [d2] at e2
  have d3 := div_of_split 4294967296 ((B0 + B1 + (B2 + B3)) + 256 * ((B1 + B2 + (B3 + B4)) + 256 * ((B2 + B3 + (B4 + B5)) + 256 * (B3 + B4 + (B5 + B6))))) ((B4 + B5 + (B6 + B7)) + 256 * ((B5 + B6 + B7) + 256 * ((B6 + B7) + 256 * B7))) x2 (by omega) (by omega)
  rw [d3] at e3
  clear d1 d2 d3
  have f : x3 = (B0 + B1 + B2 + B3 + B4 + B5 + B6 + B7) + 256 * ((B1 + B2 + (B3 + B4) + (B5 + B6 + B7)) + 256 * ((B2 + B3 + (B4 + B5) + (B6 + B7)) + 256 * ((B3 + B4 + (B5 + B6) + B7) + 256 * ((B4 + B5 + (B6 + B7)) + 256 * ((B5 + B6 + B7) + 256 * ((B6 + B7) + 256 * B7)))))) := by omega
  clear e e1 e2 e3
  subst f
  constructor
  · rw [Nat.add_mod, Nat.mod_eq_of_lt (b := 128) (a := B0 + B1 + B2 + B3 + B4 + B5 + B6 + B7) (by omega), show (256 : Nat) = 128 * 2 by rfl, Nat.mul_assoc 128 2, Nat.mul_mod_right, Nat.add_zero, Nat.mod_eq_of_lt (by omega)]
  · omega

/-- Go's text of bits.OnesCount64. -/
theorem onesCount64 (x y1 y2 y3 x1 x2 x3 : Nat) (hx : x < 18446744073709551616)
    (e1 : y1 = ((x / 2) &&& 6148914691236517205) + (x &&& 6148914691236517205))
    (e2 : y2 = ((y1 / 4) &&& 3689348814741910323) + (y1 &&& 3689348814741910323))
    (e3 : y3 = ((y2 / 16) + y2) &&& 1085102592571150095)
    (f1 : x1 = y3 + y3 / 256) (f2 : x2 = x1 + x1 / 65536) (f3 : x3 = x2 + x2 / 4294967296) :
    x3 % 128 = popN 64 x ∧ x3 < 9223372036854775808 := by
  have m0 : maskN 85 8 = 6148914691236517205 := by decide
  have m1 : maskN 51 8 = 3689348814741910323 := by decide
  have m2 : maskN 15 8 = 1085102592571150095 := by decide
  have hy : y3 = bytesOf 8 x := by
    have := (sw_all 8 x (by omega)).2
    rw [← this, e3, e2, e1]
    unfold sw3 sw2 sw1
    rw [m0, m1, m2]
  have hp : popN 64 x = popN 8 (x % 256) + (popN 8 (x / 256 % 256) + (popN 8 (x / 256 / 256 % 256) + (popN 8 (x / 256 / 256 / 256 % 256) + (popN 8 (x / 256 / 256 / 256 / 256 % 256) + (popN 8 (x / 256 / 256 / 256 / 256 / 256 % 256) + (popN 8 (x / 256 / 256 / 256 / 256 / 256 / 256 % 256) + (popN 8 (x / 256 / 256 / 256 / 256 / 256 / 256 / 256 % 256)))))))) := by
    rw [popN_bytes 64 x 56 rfl, popN_bytes 56 _ 48 rfl, popN_bytes 48 _ 40 rfl, popN_bytes 40 _ 32 rfl, popN_bytes 32 _ 24 rfl, popN_bytes 24 _ 16 rfl, popN_bytes 16 _ 8 rfl]
    rw [popN_bytes 8 (x / 256 / 256 / 256 / 256 / 256 / 256 / 256) 0 rfl]; exact congrArg _ (congrArg _ (congrArg _ (congrArg _ (congrArg _ (congrArg _ (congrArg _ (Nat.add_zero _)))))))
  have l := fun r => popN_le 8 r
  rw [hp]
  have hb : bytesOf 8 x = popN 8 (x % 256) + 256 * (popN 8 (x / 256 % 256) + 256 * (popN 8 (x / 256 / 256 % 256) + 256 * (popN 8 (x / 256 / 256 / 256 % 256) + 256 * (popN 8 (x / 256 / 256 / 256 / 256 % 256) + 256 * (popN 8 (x / 256 / 256 / 256 / 256 / 256 % 256) + 256 * (popN 8 (x / 256 / 256 / 256 / 256 / 256 / 256 % 256) + 256 * popN 8 (x / 256 / 256 / 256 / 256 / 256 / 256 / 256 % 256))))))) := by
    rw [bytesOf_succ 7, bytesOf_succ 6, bytesOf_succ 5, bytesOf_succ 4, bytesOf_succ 3, bytesOf_succ 2, bytesOf_succ 1, bytesOf_succ 0, bytesOf_zero]
    simp only [Nat.mul_zero, Nat.zero_add, Nat.add_comm]
  rw [hb] at hy
  have hl := swar_sum _ _ _ _ _ _ _ _ y3 x1 x2 x3 (l (x % 256)) (l (x / 256 % 256)) (l (x / 256 / 256 % 256)) (l (x / 256 / 256 / 256 % 256)) (l (x / 256 / 256 / 256 / 256 % 256)) (l (x / 256 / 256 / 256 / 256 / 256 % 256)) (l (x / 256 / 256 / 256 / 256 / 256 / 256 % 256)) (l (x / 256 / 256 / 256 / 256 / 256 / 256 / 256 % 256)) hy f1 f2 f3
  refine ⟨?_, hl.2⟩
  rw [hl.1]
  simp only [Nat.add_assoc]

theorem popN_or : ∀ (n x c : Nat), c < n → popN n (x ||| 2 ^ c) = popN n x + if x.testBit c then 0 else 1
  | 0, _, _, h => by omega
  | n + 1, x, 0, _ => by
    simp only [popN, Nat.pow_zero]
    have e1 : (x ||| 1) % 2 = 1 := by
      have h := Nat.or_mod_two_pow (a := x) (b := 1) (n := 1)
      rcases Nat.mod_two_eq_zero_or_one x with h0 | h0
      · rw [Nat.pow_one, h0] at h; exact h
      · rw [Nat.pow_one, h0] at h; exact h
    have e2 : (x ||| 1) / 2 = x / 2 := by
      have := Nat.or_div_two_pow (a := x) (b := 1) (n := 1)
      simpa using this
    rw [e1, e2, Nat.testBit_zero]
    by_cases h : x % 2 = 1
    · simp [h]
    · have : x % 2 = 0 := by omega
      simp [this]; omega
  | n + 1, x, c + 1, h => by
    simp only [popN]
    have e1 : (x ||| 2 ^ (c + 1)) % 2 = x % 2 := by
      have h := Nat.or_mod_two_pow (a := x) (b := 2 ^ (c + 1)) (n := 1)
      have hz : 2 ^ (c + 1) % 2 = 0 := by rw [Nat.pow_succ]; omega
      simpa [hz] using h
    have e2 : (x ||| 2 ^ (c + 1)) / 2 = x / 2 ||| 2 ^ c := by
      have h := Nat.or_div_two_pow (a := x) (b := 2 ^ (c + 1)) (n := 1)
      have hz : 2 ^ (c + 1) / 2 = 2 ^ c := by rw [Nat.pow_succ]; omega
      simpa [hz] using h
    rw [e1, e2, popN_or n (x / 2) c (by omega), Nat.testBit_succ]
    omega

/-- The set of a list of cells. -/
def setBits (xs : List Nat) : Nat := xs.foldl (fun s c => s ||| 2 ^ c) 0

theorem setBits_snoc (xs : List Nat) (c : Nat) : setBits (xs ++ [c]) = setBits xs ||| 2 ^ c := by
  simp [setBits, List.foldl_append]

theorem setBits_test (c : Nat) : ∀ (n : Nat) (xs : List Nat), xs.length = n → ((setBits xs).testBit c = true ↔ c ∈ xs)
  | 0, xs, h => by
    have : xs = [] := List.eq_nil_of_length_eq_zero h
    subst this; simp [setBits]
  | n + 1, xs, h => by
    obtain ⟨ys, y, rfl⟩ : ∃ ys y, xs = ys ++ [y] := ⟨xs.dropLast, xs.getLast (by intro e; simp [e] at h), (List.dropLast_concat_getLast _).symm⟩
    rw [setBits_snoc, Nat.testBit_or, Bool.or_eq_true, setBits_test c n ys (by simpa using h), Nat.testBit_two_pow]
    simp [eq_comm]

theorem setBits_lt (xs : List Nat) (h : ∀ c ∈ xs, c < 64) : setBits xs < 18446744073709551616 := by
  apply Nat.lt_pow_two_of_testBit (n := 64)
  intro i hi
  by_cases hm : (setBits xs).testBit i = true
  · have := (setBits_test i _ xs rfl).1 hm
    have := h i this; omega
  · simpa using hm

/-- A list has a bit for each of its cells just where none stands in it twice. -/
theorem popN_set : ∀ (n : Nat) (xs : List Nat), xs.length = n → (∀ c ∈ xs, c < 64) → popN 64 (setBits xs) ≤ xs.length ∧ (popN 64 (setBits xs) = xs.length ↔ xs.Nodup)
  | 0, xs, h, _ => by
    have : xs = [] := List.eq_nil_of_length_eq_zero h
    subst this; simp [setBits]; decide
  | n + 1, xs, h, hc => by
    obtain ⟨ys, y, rfl⟩ : ∃ ys y, xs = ys ++ [y] := ⟨xs.dropLast, xs.getLast (by intro e; simp [e] at h), (List.dropLast_concat_getLast _).symm⟩
    obtain ⟨i1, i2⟩ := popN_set n ys (by simpa using h) (fun c hm => hc c (by simp [hm]))
    rw [setBits_snoc, popN_or 64 _ y (hc y (by simp))]
    have ht := setBits_test y _ ys rfl
    have hn : (ys ++ [y]).Nodup ↔ ys.Nodup ∧ y ∉ ys := by
      rw [List.nodup_append]
      simp
      intro _
      constructor
      · intro h hm; exact h y hm rfl
      · intro h a ha e; exact h (e ▸ ha)
    rw [hn]
    by_cases hm : (setBits ys).testBit y = true
    · have := ht.1 hm
      simp [hm]
      constructor
      · omega
      · constructor
        · intro h; omega
        · intro h; exact absurd this h.2
    · have hm' : y ∉ ys := fun h => hm (ht.2 h)
      simp [hm]
      constructor
      · omega
      · rw [i2]; constructor
        · intro h; exact ⟨h, hm'⟩
        · intro h; exact h.1
end Go.Proofs.YtnmmgalidkambaaGreatDoor
