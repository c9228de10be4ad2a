/-
  Plain arithmetic on whole numbers under laws.FnExactMulDiv (a product by a divisor: bit by bit, and by two digits of 32 bits): no condition but those that each lemma names.
-/
namespace Go.Proofs.Ytcdmabjebohlgab.Md

theorem pow2_pos (n : Nat) : (0 : Int) < 2 ^ n := Int.pow_pos (by decide)
theorem pow2_succ (n : Nat) : (2 : Int) ^ (n + 1) = 2 * 2 ^ n := by rw [Int.pow_succ, Int.mul_comm]
theorem pow2_le {m n : Nat} (h : m ≤ n) : (2 : Int) ^ m ≤ 2 ^ n := by
  have := Nat.pow_le_pow_right (n := 2) (by decide) h
  exact_mod_cast this

/-! Bit by bit. -/

/-- The units 2^61, 2^60, .., 1, and 0 behind them. -/
def unitOf : Nat → Int
  | 0 => 0
  | j + 1 => 2 ^ j

theorem unit_half (j : Nat) : unitOf (j + 1) / 2 = unitOf j := by
  cases j with
  | zero => simp [unitOf]
  | succ n =>
    show (2 : Int) ^ (n + 1) / 2 = 2 ^ n
    rw [pow2_succ]; omega
theorem unit_pos (j : Nat) : 0 < unitOf (j + 1) := pow2_pos j
theorem unit_le (j : Nat) (h : j ≤ 62) : 0 ≤ unitOf j ∧ unitOf j ≤ 2305843009213693952 := by
  cases j with
  | zero => simp [unitOf]
  | succ n =>
    have h1 := pow2_pos n
    have h2 := pow2_le (m := n) (n := 61) (by omega)
    have h3 : (2 : Int) ^ 61 = 2305843009213693952 := by decide
    show 0 ≤ (2 : Int) ^ n ∧ (2 : Int) ^ n ≤ 2305843009213693952
    omega

/-- What is ahead of the last j bits. -/
def pre (b : Int) (j : Nat) : Int := b / 2 ^ j

theorem pre_zero (b : Int) : pre b 0 = b := by simp [pre]
theorem pre_top (b : Int) (h0 : 0 ≤ b) (h1 : b ≤ 4000000000000000000) : pre b 62 = 0 := by
  have h3 : (2 : Int) ^ 62 = 4611686018427387904 := by decide
  unfold pre; rw [h3]; omega
theorem pre_step (b : Int) (j : Nat) : pre b j = 2 * pre b (j + 1) + b / unitOf (j + 1) % 2 := by
  have e : b / 2 ^ (j + 1) = b / 2 ^ j / 2 := by
    rw [Int.pow_succ, Int.ediv_ediv_of_nonneg (by have := pow2_pos j; omega)]
  show b / 2 ^ j = 2 * (b / 2 ^ (j + 1)) + b / 2 ^ j % 2
  rw [e]; omega

def Inv (a b c q r : Int) (j : Nat) : Prop :=
  a * pre b j = q * c + r ∧ 0 ≤ r ∧ r < c ∧ 0 ≤ q ∧ q ≤ 8000000000000000002

theorem inv_start (a b c : Int) (h0 : 0 ≤ b) (h1 : b ≤ 4000000000000000000) (hc : 1 ≤ c) : Inv a b c 0 0 62 := by
  refine ⟨?_, by omega, by omega, by omega, by omega⟩
  rw [pre_top b h0 h1]; simp

theorem inv_mul {a b c q r : Int} {j : Nat} (h : Inv a b c q r (j + 1)) : a * pre b j = 2 * (q * c) + 2 * r + a * (b / unitOf (j + 1) % 2) := by
  obtain ⟨h, -⟩ := h
  rw [pre_step, Int.mul_add, Int.mul_left_comm, h]; omega

theorem inv_next {a b c q r q' r' : Int} {j : Nat} (h : Inv a b c q r (j + 1)) (e : q' * c + r' = 2 * (q * c) + 2 * r + a * (b / unitOf (j + 1) % 2))
    (h0 : 0 ≤ r') (h1 : r' < c) (h2 : 0 ≤ q') (h3 : q' ≤ 8000000000000000002) : Inv a b c q' r' j :=
  ⟨by rw [inv_mul h, e], h0, h1, h2, h3⟩

theorem part (a c : Int) : a / c * c + a % c = a := by
  have := Int.mul_ediv_add_emod a c
  rw [Int.mul_comm] at this; exact this

theorem quo_bd (a c : Int) (h0 : 0 ≤ a) (h1 : a ≤ 4000000000000000000) (hc : 1 ≤ c) : 0 ≤ a / c ∧ a / c ≤ 4000000000000000000 ∧ 0 ≤ a % c ∧ a % c < c := by
  refine ⟨Int.ediv_nonneg h0 (by omega), Int.le_trans (Int.ediv_le_self c h0) h1, Int.emod_nonneg _ (by omega), Int.emod_lt_of_pos _ (by omega)⟩

/-- The four ways through a round where the bit is not set, and where it is. -/
theorem inv_0 {a b c q r : Int} {j : Nat} (h : Inv a b c q r (j + 1)) (hb : b / unitOf (j + 1) % 2 = 0) (hq : q ≤ 2000000000000000000) :
    (2 * r < c → Inv a b c (2 * q) (2 * r) j) ∧ (c ≤ 2 * r → Inv a b c (2 * q + 1) (2 * r - c) j) := by
  have ⟨_, h1, h2, h3, _⟩ := h
  refine ⟨fun k => inv_next h ?_ (by omega) k (by omega) (by omega), fun k => inv_next h ?_ (by omega) (by omega) (by omega) (by omega)⟩
  · rw [hb, Int.mul_assoc]; omega
  · rw [hb, Int.add_mul, Int.mul_assoc]; omega
theorem inv_1 {a b c q r : Int} {j : Nat} (h : Inv a b c q r (j + 1)) (hb : b / unitOf (j + 1) % 2 = 1) (hq : q ≤ 2000000000000000000) (h0 : 0 ≤ a) (ha : a ≤ 4000000000000000000) (hc : 1 ≤ c) :
    (2 * r < c → 2 * r + a % c < c → Inv a b c (2 * q + a / c) (2 * r + a % c) j) ∧
    (2 * r < c → c ≤ 2 * r + a % c → Inv a b c (2 * q + a / c + 1) (2 * r + a % c - c) j) ∧
    (c ≤ 2 * r → 2 * r - c + a % c < c → Inv a b c (2 * q + 1 + a / c) (2 * r - c + a % c) j) ∧
    (c ≤ 2 * r → c ≤ 2 * r - c + a % c → Inv a b c (2 * q + 1 + a / c + 1) (2 * r - c + a % c - c) j) := by
  have ⟨_, h1, h2, h3, _⟩ := h
  obtain ⟨d1, d2, d3, d4⟩ := quo_bd a c h0 ha hc
  have p := part a c
  refine ⟨fun k l => inv_next h ?_ (by omega) l (by omega) (by omega), fun k l => inv_next h ?_ (by omega) (by omega) (by omega) (by omega),
    fun k l => inv_next h ?_ (by omega) l (by omega) (by omega), fun k l => inv_next h ?_ (by omega) (by omega) (by omega) (by omega)⟩
  all_goals (rw [hb]; simp only [Int.add_mul, Int.mul_assoc, Int.one_mul]; omega)

theorem le_div {x y c : Int} (hc : 1 ≤ c) (h : x * c ≤ y) : x ≤ y / c := (Int.le_ediv_iff_mul_le (by omega)).2 h
theorem div_lt {x y c : Int} (hc : 1 ≤ c) (h : y < x * c) : y / c < x := (Int.ediv_lt_iff_lt_mul (by omega)).2 h

theorem inv_early {a b c q r : Int} {j : Nat} (h : Inv a b c q r (j + 1)) (hq : 2000000000000000000 < q) (h0 : 0 ≤ a) (hb : 0 ≤ b) (hc : 1 ≤ c) :
    4000000000000000000 < a * b / c := by
  obtain ⟨h, h1, -⟩ := h
  have p0 : 0 ≤ pre b (j + 1) := Int.ediv_nonneg hb (by have := pow2_pos (j + 1); omega)
  have p1 : 2 * pre b (j + 1) ≤ b := by
    have e := pre_step b 0
    have e2 : ∀ n, 2 * pre b (n + 1) ≤ b := by
      intro n
      induction n with
      | zero => have := pre_step b 0; rw [pre_zero] at this; have := Int.emod_nonneg (b / unitOf 1) (b := 2) (by decide); omega
      | succ n ih =>
        have := pre_step b (n + 1); have := Int.emod_nonneg (b / unitOf (n + 1 + 1)) (b := 2) (by decide)
        have : 0 ≤ pre b (n + 1 + 1) := Int.ediv_nonneg hb (by have := pow2_pos (n + 1 + 1); omega)
        omega
    exact e2 j
  have p2 : a * (2 * pre b (j + 1)) ≤ a * b := Int.mul_le_mul_of_nonneg_left p1 h0
  rw [Int.mul_left_comm, h] at p2
  have p3 : 2000000000000000001 * c ≤ q * c := Int.mul_le_mul_of_nonneg_right (by omega) (by omega)
  have p4 : 4000000000000000002 * c ≤ a * b := by omega
  have := le_div hc p4
  omega

theorem inv_end {a b c q r : Int} (h : Inv a b c q r 0) (hc : 1 ≤ c) : q = a * b / c ∧ r = a * b % c := by
  obtain ⟨h, h1, h2, -⟩ := h
  rw [pre_zero] at h
  have := (Int.ediv_emod_unique (a := a * b) (b := c) (r := r) (q := q) (by omega)).2 ⟨by rw [Int.mul_comm c q]; omega, h1, h2⟩
  exact ⟨this.1.symm, this.2.symm⟩

/-! By two digits of 32 bits. -/

/-- A number U below Y, a digit d behind it; Y of two digits, y1 and y0, the first one at least half of what it may be. -/
structure Fit (U d Y y1 y0 : Int) : Prop where
  hY : Y = y1 * 4294967296 + y0
  h1 : 2147483648 ≤ y1
  h2 : y1 < 4294967296
  h3 : 0 ≤ y0
  h4 : y0 < 4294967296
  h5 : 0 ≤ U
  h6 : U < Y
  h7 : 0 ≤ d
  h8 : d < 4294967296

def Q3 (U d Y : Int) : Int := (U * 4294967296 + d) / Y

def Lp (U d Y y1 q r : Int) : Prop :=
  U = q * y1 + r ∧ 0 ≤ r ∧ r < 4294967296 ∧ Q3 U d Y ≤ q ∧ 0 ≤ q ∧ q ≤ 4294967297

theorem q3_bd {U d Y y1 y0 : Int} (f : Fit U d Y y1 y0) : 0 ≤ Q3 U d Y ∧ Q3 U d Y < 4294967296 := by
  obtain ⟨hY, h1, h2, h3, h4, h5, h6, h7, h8⟩ := f
  refine ⟨Int.ediv_nonneg (by omega) (by omega), div_lt (by omega) ?_⟩
  omega

theorem mulY {Y y1 y0 : Int} (hY : Y = y1 * 4294967296 + y0) (q : Int) : q * Y = q * y1 * 4294967296 + q * y0 := by
  rw [hY, Int.mul_add, Int.mul_assoc]

theorem lp_start {U d Y y1 y0 : Int} (f : Fit U d Y y1 y0) : Lp U d Y y1 (U / y1) (U - U / y1 * y1) := by
  obtain ⟨hY, h1, h2, h3, h4, h5, h6, h7, h8⟩ := f
  have p := part U y1
  have m0 := Int.emod_nonneg U (b := y1) (by omega)
  have m1 := Int.emod_lt_of_pos U (b := y1) (by omega)
  have q0 : 0 ≤ U / y1 := Int.ediv_nonneg h5 (by omega)
  refine ⟨by omega, by omega, by omega, ?_, q0, ?_⟩
  · have : Q3 U d Y < U / y1 + 1 := by
      refine div_lt (by omega) ?_
      have e := mulY hY (U / y1 + 1)
      have e2 : (U / y1 + 1) * y1 = U / y1 * y1 + y1 := by rw [Int.add_mul, Int.one_mul]
      have e3 : 0 ≤ (U / y1 + 1) * y0 := Int.mul_nonneg (by omega) h3
      omega
    omega
  · have : U / y1 < 4294967298 := div_lt (by omega) (by omega)
    omega

theorem lp_done {U d Y y1 y0 q r : Int} (f : Fit U d Y y1 y0) (l : Lp U d Y y1 q r) (h : q * y0 ≤ 4294967296 * r + d) : q = Q3 U d Y := by
  obtain ⟨hY, h1, h2, h3, h4, h5, h6, h7, h8⟩ := f
  obtain ⟨l1, l2, l3, l4, l5, l6⟩ := l
  have e := mulY hY q
  have : q ≤ Q3 U d Y := le_div (by omega) (by omega)
  omega

theorem lp_more {U d Y y1 y0 q r : Int} (f : Fit U d Y y1 y0) (l : Lp U d Y y1 q r) (h : 4294967296 ≤ q ∨ 4294967296 * r + d < q * y0) : Q3 U d Y ≤ q - 1 ∧ 1 ≤ q := by
  have b := q3_bd f
  obtain ⟨hY, h1, h2, h3, h4, h5, h6, h7, h8⟩ := f
  obtain ⟨l1, l2, l3, l4, l5, l6⟩ := l
  rcases h with h | h
  · omega
  · have e := mulY hY q
    have : Q3 U d Y < q := div_lt (by omega) (by omega)
    omega

theorem lp_next {U d Y y1 y0 q r : Int} (f : Fit U d Y y1 y0) (l : Lp U d Y y1 q r) (h : 4294967296 ≤ q ∨ 4294967296 * r + d < q * y0) (hr : r + y1 < 4294967296) : Lp U d Y y1 (q - 1) (r + y1) := by
  have m := lp_more f l h
  obtain ⟨hY, h1, h2, h3, h4, h5, h6, h7, h8⟩ := f
  obtain ⟨l1, l2, l3, l4, l5, l6⟩ := l
  refine ⟨?_, by omega, by omega, by omega, by omega, by omega⟩
  rw [Int.sub_mul, Int.one_mul]; omega

theorem lp_break {U d Y y1 y0 q r : Int} (f : Fit U d Y y1 y0) (l : Lp U d Y y1 q r) (h : 4294967296 ≤ q ∨ 4294967296 * r + d < q * y0) (hr : 4294967296 ≤ r + y1) : q - 1 = Q3 U d Y := by
  have m := lp_more f l h
  obtain ⟨hY, h1, h2, h3, h4, h5, h6, h7, h8⟩ := f
  obtain ⟨l1, l2, l3, l4, l5, l6⟩ := l
  have e := mulY hY (q - 1)
  have e2 : (q - 1) * y1 = q * y1 - y1 := by rw [Int.sub_mul, Int.one_mul]
  have e3 : (q - 1) * y0 ≤ 4294967296 * 4294967295 := Int.mul_le_mul (by omega) (by omega) h3 (by omega)
  have : q - 1 ≤ Q3 U d Y := le_div (by omega) (by omega)
  omega

/-- What is left. -/
theorem q3_rem {U d Y y1 y0 : Int} (f : Fit U d Y y1 y0) : 0 ≤ U * 4294967296 + d - Q3 U d Y * Y ∧ U * 4294967296 + d - Q3 U d Y * Y < Y := by
  obtain ⟨hY, h1, h2, h3, h4, h5, h6, h7, h8⟩ := f
  have p := part (U * 4294967296 + d) Y
  have m0 := Int.emod_nonneg (U * 4294967296 + d) (b := Y) (by omega)
  have m1 := Int.emod_lt_of_pos (U * 4294967296 + d) (b := Y) (by omega)
  unfold Q3
  omega

theorem prod_bd {q y0 : Int} (h0 : 0 ≤ q) (h1 : q < 4294967296) (h2 : 0 ≤ y0) (h3 : y0 < 4294967296) : 0 ≤ q * y0 ∧ q * y0 ≤ 18446744065119617025 :=
  ⟨Int.mul_nonneg h0 h2, Int.le_trans (Int.mul_le_mul (by omega) (by omega) h2 (by omega)) (show (4294967295 : Int) * 4294967295 ≤ 18446744065119617025 by decide)⟩

/-- Shifted by s, and the two digits put together. -/
theorem two_digits {hi lo y S V U : Int} (_hs : 0 < S) (hU : U * 18446744073709551616 + V = (hi * 18446744073709551616 + lo) * S) (hy : 1 ≤ y) (Y R q1 q0 : Int) (hY : Y = y * S)
    (e : U * 18446744073709551616 + V = (q1 * 4294967296 + q0) * Y + R) (hR0 : 0 ≤ R) (hR1 : R < Y) :
    (hi * 18446744073709551616 + lo) / y = q1 * 4294967296 + q0 ∧ (hi * 18446744073709551616 + lo) % y = R / S := by
  generalize hN : hi * 18446744073709551616 + lo = N at *
  generalize hq : q1 * 4294967296 + q0 = q at *
  have e1 : N * S = q * y * S + R := by rw [Int.mul_assoc, ← hY]; omega
  have e2 : (N - q * y) * S = R := by rw [Int.sub_mul]; omega
  have e3 : R / S = N - q * y := by rw [← e2]; exact Int.mul_ediv_cancel _ (by omega)
  have e4 : 0 ≤ N - q * y := by rw [← e3]; exact Int.ediv_nonneg hR0 (by omega)
  have e5 : N - q * y < y := by
    rw [← e3]; refine (Int.ediv_lt_iff_lt_mul (by omega)).2 ?_
    rw [← hY]; exact hR1
  have := (Int.ediv_emod_unique (a := N) (b := y) (r := N - q * y) (q := q) (by omega)).2 ⟨by rw [Int.mul_comm y q]; omega, e4, e5⟩
  rw [e3]; exact this

/-- Both shifted by s bits: what becomes of the words. -/
theorem shifted {hi lo y S T : Int} (hS : 0 < S) (hT : 0 < T) (hST : S * T = 18446744073709551616) (h0 : 0 ≤ hi) (h1 : hi < y) (h2 : 0 ≤ lo) (h3 : lo ≤ 18446744073709551615) (hY : y * S < 18446744073709551616) :
    0 ≤ hi * S ∧ hi * S < 18446744073709551616 ∧ 0 ≤ lo / T ∧ lo / T < S ∧ (hi * S + lo / T) * 18446744073709551616 + lo * S % 18446744073709551616 = (hi * 18446744073709551616 + lo) * S ∧ hi * S + lo / T < y * S := by
  have a0 : 0 ≤ hi * S := Int.mul_nonneg h0 (by omega)
  have a1 : hi * S + S ≤ y * S := by
    have : (hi + 1) * S ≤ y * S := Int.mul_le_mul_of_nonneg_right (by omega) (by omega)
    rw [Int.add_mul, Int.one_mul] at this; exact this
  have a2 : 0 ≤ lo / T := Int.ediv_nonneg h2 (by omega)
  have a3 : lo / T < S := (Int.ediv_lt_iff_lt_mul hT).2 (by omega)
  have p := part lo T
  have m0 := Int.emod_nonneg lo (b := T) (by omega)
  have m1 := Int.emod_lt_of_pos lo hT
  have e : lo * S = lo / T * 18446744073709551616 + lo % T * S := by
    have : (lo / T * T + lo % T) * S = lo / T * (S * T) + lo % T * S := by rw [Int.add_mul, Int.mul_assoc, Int.mul_comm T S]
    rw [p, hST] at this; exact this
  have b0 : 0 ≤ lo % T * S := Int.mul_nonneg m0 (by omega)
  have b1 : lo % T * S + S ≤ 18446744073709551616 := by
    have : (lo % T + 1) * S ≤ T * S := Int.mul_le_mul_of_nonneg_right (by omega) (by omega)
    rw [Int.add_mul, Int.one_mul, Int.mul_comm T S, hST] at this; exact this
  refine ⟨a0, by omega, a2, a3, ?_, by omega⟩
  rw [Int.add_mul (hi * 18446744073709551616), Int.mul_right_comm hi]
  omega

end Go.Proofs.Ytcdmabjebohlgab.Md
