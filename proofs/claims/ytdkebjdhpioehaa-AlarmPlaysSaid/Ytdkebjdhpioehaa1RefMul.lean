/- The document's own product in thousandths: halves of 32 bits, long division by a thousand: the same numbers as package milli's. -/
import Derived.Test.YtdkebjdhpioehaaMilProd
namespace Go.Proofs.Ytdkebjdhpioehaa.Mil
open Go.ChangeShapes Go.WideShapes Go.ChangeAt Go.RowKit
set_option linter.unusedVariables false
set_option linter.unusedSimpArgs false

theorem refsize_any (a : Int) (ha : -9223372036854775808 ≤ a) (ha' : a ≤ 9223372036854775807) (w : World) :
    Calls Try.prog 86 #[.int .i64 a] w (OneU (a.natAbs : Nat) w) := by
  by_cases h : a < 0
  · have e1 : IntKind.u64.wrap (-(a + 1)) = -(a + 1) := by rw [IntKind.wrap_u64]; omega
    have e2 : -(a + 1) + 1 = (a.natAbs : Nat) := by omega
    obtain ⟨n, hn⟩ : ∃ n : Int, ((a.natAbs : Nat) : Int) = n := ⟨_, rfl⟩
    have e3 : -(a + 1) = n - 1 := by omega
    have e4 : 0 ≤ n - 1 := by omega
    have e5 : n ≤ 9223372036854775808 := by omega
    rw [hn]
    rw [e3] at e1
    clear e2
    go_enter Try.func86, Try.ntmps86
    go_wp2
    go_ret
    exact ⟨by simp [*], rfl⟩
  · have e1 : IntKind.u64.wrap a = (a.natAbs : Nat) := by rw [IntKind.wrap_u64]; omega
    go_enter Try.func86, Try.ntmps86
    go_wp2
    go_ret
    exact ⟨by simp [*], rfl⟩

theorem or_halves (h l : Nat) (hh : h < 4294967296) (hl : l < 4294967296) : bits .or .u64 ((h : Int) * 4294967296) (l : Int) = (h : Int) * 4294967296 + l := by
  have e := bits_or_u64_nat (h * 4294967296) l (by omega) (by omega)
  have e2 := Nat.shiftLeft_add_eq_or_of_lt (i := 32) (show l < 2 ^ 32 from hl) h
  rw [Nat.shiftLeft_eq] at e2
  have e3 : ((h * 4294967296 : Nat) : Int) = (h : Int) * 4294967296 := by rw [Int.natCast_mul]; rfl
  rw [e3] at e
  rw [e, ← e3, ← Int.natCast_add]
  exact congrArg Int.ofNat e2.symm
theorem or_halvesI (h l : Int) (h0 : 0 ≤ h) (l0 : 0 ≤ l) (hh : h < 4294967296) (hl : l < 4294967296) : bits .or .u64 (h * 4294967296) l = h * 4294967296 + l := by
  obtain ⟨a, rfl⟩ := Int.eq_ofNat_of_zero_le h0
  obtain ⟨b, rfl⟩ := Int.eq_ofNat_of_zero_le l0
  exact or_halves a b (by omega) (by omega)
theorem mask_halves (l : Int) (l0 : 0 ≤ l) (hl : l < 18446744073709551616) : bits .and .u64 l 4294967295 = l % 4294967296 := by
  obtain ⟨b, rfl⟩ := Int.eq_ofNat_of_zero_le l0
  rw [Mul64.maskN b (by omega)]; rfl

/-- the numbers of the school method, summed another way -/
theorem wide_way (x1 x0 y1 y0 a b c d : Nat) (hx1 : x1 < 4294967296) (hx0 : x0 < 4294967296) (hy1 : y1 < 4294967296) (hy0 : y0 < 4294967296)
    (ha : a = x0 * y0) (hb : b = x1 * y0) (hc : c = x0 * y1) (hd : d = x1 * y1) :
    a ≤ 18446744065119617025 ∧ b ≤ 18446744065119617025 ∧ c ≤ 18446744065119617025 ∧ d ≤ 18446744065119617025 ∧
    (x1 * 4294967296 + x0) * (y1 * 4294967296 + y0) = d * 18446744073709551616 + (b + c) * 4294967296 + a ∧ d + b / 4294967296 + c / 4294967296 ≤ 18446744073709551614 := by
  have h1 := Lib.half_mul_le (a := x0) (b := y0) (by omega) (by omega)
  have h2 := Lib.half_mul_le (a := x1) (b := y0) (by omega) (by omega)
  have h3 := Lib.half_mul_le (a := x0) (b := y1) (by omega) (by omega)
  have h4 := Lib.half_mul_le (a := x1) (b := y1) (by omega) (by omega)
  have h5 := Lib.split_mul x1 x0 y1 y0 4294967296
  rw [h5, ← ha, ← hb, ← hc, ← hd]
  refine ⟨by omega, by omega, by omega, by omega, by omega, by omega⟩

set_option maxRecDepth 100000 in
set_option maxHeartbeats 2000000 in
theorem wide_P (x y P : Nat) (hP : x * y = P) (hx : x < 18446744073709551616) (hy : y < 18446744073709551616) (w : World) :
    Calls Try.prog 85 #[.int .u64 x, .int .u64 y] w (TwoU ((P / 18446744073709551616 : Nat) : Int) ((P % 18446744073709551616 : Nat) : Int) w) := by
  obtain ⟨x1, hx1⟩ : ∃ n : Nat, x / 4294967296 = n := ⟨_, rfl⟩
  obtain ⟨x0, hx0⟩ : ∃ n : Nat, x % 4294967296 = n := ⟨_, rfl⟩
  obtain ⟨y1, hy1⟩ : ∃ n : Nat, y / 4294967296 = n := ⟨_, rfl⟩
  obtain ⟨y0, hy0⟩ : ∃ n : Nat, y % 4294967296 = n := ⟨_, rfl⟩
  obtain ⟨a, ha⟩ : ∃ n : Nat, n = x0 * y0 := ⟨_, rfl⟩
  obtain ⟨b, hb⟩ : ∃ n : Nat, n = x1 * y0 := ⟨_, rfl⟩
  obtain ⟨c, hc⟩ : ∃ n : Nat, n = x0 * y1 := ⟨_, rfl⟩
  obtain ⟨d, hd⟩ : ∃ n : Nat, n = x1 * y1 := ⟨_, rfl⟩
  obtain ⟨ba, bb, bc, bd, hp, bsum⟩ := wide_way x1 x0 y1 y0 a b c d (by omega) (by omega) (by omega) (by omega) ha hb hc hd
  rw [show x1 * 4294967296 + x0 = x by omega, show y1 * 4294967296 + y0 = y by omega, hP] at hp
  have k1 : bits .and .u64 (x : Int) 4294967295 = (x0 : Int) := by rw [Mul64.maskN x hx, hx0]
  have k2 : bits .and .u64 (y : Int) 4294967295 = (y0 : Int) := by rw [Mul64.maskN y hy, hy0]
  have k3 : (x : Int) / 4294967296 = (x1 : Int) := by omega
  have k4 : (y : Int) / 4294967296 = (y1 : Int) := by omega
  have p1 : (x0 : Int) * (y0 : Int) = (a : Int) := by rw [ha]; exact (Int.natCast_mul _ _).symm
  have p2 : (x1 : Int) * (y0 : Int) = (b : Int) := by rw [hb]; exact (Int.natCast_mul _ _).symm
  have p3 : (x0 : Int) * (y1 : Int) = (c : Int) := by rw [hc]; exact (Int.natCast_mul _ _).symm
  have p4 : (x1 : Int) * (y1 : Int) = (d : Int) := by rw [hd]; exact (Int.natCast_mul _ _).symm
  obtain ⟨m, hm⟩ : ∃ m : Int, (b : Int) % 4294967296 + (c : Int) % 4294967296 + (a : Int) / 4294967296 = m := ⟨_, rfl⟩
  obtain ⟨b0, hb0⟩ : ∃ m : Int, (b : Int) % 4294967296 = m := ⟨_, rfl⟩
  obtain ⟨c0, hc0⟩ : ∃ m : Int, (c : Int) % 4294967296 = m := ⟨_, rfl⟩
  obtain ⟨a1, ha1⟩ : ∃ m : Int, (a : Int) / 4294967296 = m := ⟨_, rfl⟩
  obtain ⟨a0, ha0⟩ : ∃ m : Int, (a : Int) % 4294967296 = m := ⟨_, rfl⟩
  obtain ⟨b1, hb1⟩ : ∃ m : Int, (b : Int) / 4294967296 = m := ⟨_, rfl⟩
  obtain ⟨c1, hc1⟩ : ∃ m : Int, (c : Int) / 4294967296 = m := ⟨_, rfl⟩
  obtain ⟨m1, hm1⟩ : ∃ n : Int, m / 4294967296 = n := ⟨_, rfl⟩
  obtain ⟨m0, hm0⟩ : ∃ n : Int, m % 4294967296 = n := ⟨_, rfl⟩
  have q1 : bits .and .u64 (b : Int) 4294967295 = b0 := by rw [← hb0]; exact mask_halves _ (by omega) (by omega)
  have q2 : bits .and .u64 (c : Int) 4294967295 = c0 := by rw [← hc0]; exact mask_halves _ (by omega) (by omega)
  have q3 : bits .and .u64 (a : Int) 4294967295 = a0 := by rw [← ha0]; exact mask_halves _ (by omega) (by omega)
  have q4 : IntKind.u64.wrap (m * 4294967296) = m0 * 4294967296 := by rw [IntKind.wrap_u64]; omega
  have q5 : bits .or .u64 (m0 * 4294967296) a0 = m0 * 4294967296 + a0 := or_halvesI _ _ (by omega) (by omega) (by omega) (by omega)
  have r1 : ((P / 18446744073709551616 : Nat) : Int) = (d : Int) + b1 + c1 + m1 := by omega
  have r2 : ((P % 18446744073709551616 : Nat) : Int) = m0 * 4294967296 + a0 := by omega
  rw [hb0, hc0, ha1] at hm
  have s1 : 0 ≤ b0 ∧ b0 < 4294967296 := by omega
  have s2 : 0 ≤ c0 ∧ c0 < 4294967296 := by omega
  have s3 : 0 ≤ a1 ∧ a1 < 4294967296 := by omega
  have s4 : 0 ≤ b1 ∧ b1 < 4294967296 := by omega
  have s5 : 0 ≤ c1 ∧ c1 < 4294967296 := by omega
  have s6 : 0 ≤ m1 ∧ m1 ≤ 3 := by omega
  have s7 : (d : Int) + b1 + c1 + m1 ≤ 18446744073709551615 := by omega
  have s8 : 0 ≤ m := by omega
  obtain ⟨s1a, s1b⟩ := s1
  obtain ⟨s2a, s2b⟩ := s2
  obtain ⟨s3a, s3b⟩ := s3
  obtain ⟨s4a, s4b⟩ := s4
  obtain ⟨s5a, s5b⟩ := s5
  obtain ⟨s6a, s6b⟩ := s6
  rw [r1, r2]
  clear r1 r2 hp hP hx1 hx0 hy1 hy0 ha hb hc hd hb0 hc0 ha0 hm0
  go_enter Try.func85, Try.ntmps85
  go_wp2
  go_ret2
  exact ⟨by simp [*], rfl⟩

def ThreeU (u v c : Int) (w : World) (e : Ending) (w' : World) : Prop := e = .returned (.tuple #[.int .u64 u, .int .u64 v, .int .u64 c]) ∧ w = w'

set_option maxRecDepth 100000 in
set_option maxHeartbeats 2000000 in
theorem thousandth_P (P q n s : Int) (h0 : 0 ≤ P) (hq : P / 18446744073709551616000 = q) (hn : P / 1000 % 18446744073709551616 = n) (hs : P % 1000 = s) (hP : P < 85070591730234615865843651857942052865) (w : World) :
    Calls Try.prog 87 #[.int .u64 (P / 18446744073709551616), .int .u64 (P % 18446744073709551616)] w (ThreeU q n s w) := by
  obtain ⟨hi, hhi⟩ : ∃ n : Int, P / 18446744073709551616 = n := ⟨_, rfl⟩
  obtain ⟨lo, hlo⟩ : ∃ n : Int, P % 18446744073709551616 = n := ⟨_, rfl⟩
  have e0 : P = hi * 18446744073709551616 + lo := by omega
  have b1 : 0 ≤ hi ∧ hi < 4611686018427387905 := by omega
  have b2 : 0 ≤ lo ∧ lo < 18446744073709551616 := by omega
  rw [hhi, hlo]
  clear hhi hlo hP
  obtain ⟨r, hr⟩ : ∃ n : Int, hi % 1000 = n := ⟨_, rfl⟩
  have hq' : hi / 1000 = q := by omega
  obtain ⟨l1, hl1⟩ : ∃ n : Int, lo / 4294967296 = n := ⟨_, rfl⟩
  obtain ⟨l0, hl0⟩ : ∃ n : Int, lo % 4294967296 = n := ⟨_, rfl⟩
  obtain ⟨A, hA⟩ : ∃ n : Int, r * 4294967296 + l1 = n := ⟨_, rfl⟩
  obtain ⟨A1, hA1⟩ : ∃ n : Int, A / 1000 = n := ⟨_, rfl⟩
  obtain ⟨A0, hA0⟩ : ∃ n : Int, A % 1000 = n := ⟨_, rfl⟩
  obtain ⟨B, hB⟩ : ∃ n : Int, A0 * 4294967296 + l0 = n := ⟨_, rfl⟩
  obtain ⟨B1, hB1⟩ : ∃ n : Int, B / 1000 = n := ⟨_, rfl⟩
  obtain ⟨B0, hB0⟩ : ∃ n : Int, B % 1000 = n := ⟨_, rfl⟩
  have c1 : 0 ≤ r ∧ r < 1000 := by omega
  have c2 : 0 ≤ l1 ∧ l1 < 4294967296 := by omega
  have c3 : 0 ≤ l0 ∧ l0 < 4294967296 := by omega
  have c4 : 0 ≤ A ∧ A < 4294967296000 := by omega
  have c5 : 0 ≤ A1 ∧ A1 < 4294967296 := by omega
  have c6 : 0 ≤ A0 ∧ A0 < 1000 := by omega
  have c7 : 0 ≤ B ∧ B < 4294967296000 := by omega
  have c8 : 0 ≤ B1 ∧ B1 < 4294967296 := by omega
  have m1 : P = q * 18446744073709551616000 + (A1 * 4294967296 + B1) * 1000 + B0 := by omega
  have hn' : A1 * 4294967296 + B1 = n := by omega
  have hs' : B0 = s := by omega
  have k1 : bits .or .u64 (r * 4294967296) l1 = A := by rw [← hA]; exact or_halvesI _ _ (by omega) (by omega) (by omega) (by omega)
  have k2 : bits .and .u64 lo 4294967295 = l0 := by rw [← hl0]; exact mask_halves _ (by omega) (by omega)
  have k3 : bits .or .u64 (A0 * 4294967296) l0 = B := by rw [← hB]; exact or_halvesI _ _ (by omega) (by omega) (by omega) (by omega)
  have k4 : bits .or .u64 (A1 * 4294967296) B1 = n := by rw [← hn']; exact or_halvesI _ _ (by omega) (by omega) (by omega) (by omega)
  obtain ⟨b1a, b1b⟩ := b1
  obtain ⟨b2a, b2b⟩ := b2
  obtain ⟨c1a, c1b⟩ := c1
  obtain ⟨c4a, c4b⟩ := c4
  obtain ⟨c5a, c5b⟩ := c5
  obtain ⟨c6a, c6b⟩ := c6
  obtain ⟨c7a, c7b⟩ := c7
  clear hq hn hs e0 m1 hn' hA hB c2 c3 c8 hl0
  subst hs'
  go_enter Try.func87, Try.ntmps87
  go_wp2
  go_ret3
  exact ⟨by simp [*], rfl⟩

/-- the sizes of two numbers of 64 bits: their product is below 2^126 and a little -/
theorem abs_prod (a b : Int) (ha : -9223372036854775808 ≤ a) (ha' : a ≤ 9223372036854775807) (hb : -9223372036854775808 ≤ b) (hb' : b ≤ 9223372036854775807) : ((a.natAbs * b.natAbs : Nat) : Int) < 85070591730234615865843651857942052865 := by
  have h : a.natAbs * b.natAbs ≤ 9223372036854775808 * 9223372036854775808 := Nat.mul_le_mul (by omega) (by omega)
  have h2 : ((a.natAbs * b.natAbs : Nat) : Int) ≤ ((9223372036854775808 * 9223372036854775808 : Nat) : Int) := Int.ofNat_le.2 h
  exact Int.lt_of_le_of_lt h2 (by decide)

set_option maxRecDepth 100000 in
set_option maxHeartbeats 4000000 in
theorem refmul_plus (a b : Int) (ha : -9223372036854775808 ≤ a) (ha' : a ≤ 9223372036854775807) (hb : -9223372036854775808 ≤ b) (hb' : b ≤ 9223372036854775807) (P : Nat) (hP : a.natAbs * b.natAbs = P)
    (hsg : decide (a < 0) = decide (b < 0) ∨ a = 0 ∨ b = 0) (w : World) :
    Calls Try.prog 66 #[.int .i64 a, .int .i64 b] w (Two (cutV ((P : Int) / 1000)) (cutE ((P : Int) / 1000)) w) := by
  have h1 := abs_le a ha ha'
  have h2 := abs_le b hb hb'
  have h3 := abs_prod a b ha ha' hb hb'
  rw [hP] at h3
  have hT := fun w => thousandth_P (P : Int) _ _ _ (by omega) rfl rfl rfl h3 w
  obtain ⟨q, hq⟩ : ∃ n : Int, (P : Int) / 18446744073709551616000 = n := ⟨_, rfl⟩
  obtain ⟨n, hn⟩ : ∃ n : Int, (P : Int) / 1000 % 18446744073709551616 = n := ⟨_, rfl⟩
  obtain ⟨s, hs⟩ : ∃ n : Int, (P : Int) % 1000 = n := ⟨_, rfl⟩
  rw [hq, hn, hs] at hT
  have HT := Lib.hid hT
  have b1 : 0 ≤ q := by omega
  have b2 : 0 ≤ n ∧ n < 18446744073709551616 := by omega
  obtain ⟨b2a, b2b⟩ := b2
  obtain ⟨m, hm⟩ : ∃ m, ((decide (a < 0) != decide (b < 0)) && (a != 0) && (b != 0)) = m := ⟨_, rfl⟩
  have hm' : m = false := by
    rw [← hm]
    rcases hsg with h | h | h
    · rw [h]; simp
    · subst h; simp
    · subst h; simp
  subst hm'
  obtain ⟨x, hx⟩ : ∃ x, decide (a < 0) = x := ⟨_, rfl⟩
  obtain ⟨y, hy⟩ : ∃ x, decide (b < 0) = x := ⟨_, rfl⟩
  obtain ⟨x0, hx0⟩ : ∃ x, (a != 0) = x := ⟨_, rfl⟩
  obtain ⟨y0, hy0⟩ : ∃ x, (b != 0) = x := ⟨_, rfl⟩
  rw [hx, hy, hx0, hy0] at hm
  by_cases hin : (P : Int) / 1000 ≤ 9223372036854775807
  · have e1 : q = 0 := by omega
    have e2 : n = (P : Int) / 1000 := by omega
    rw [(cut_in ((P : Int) / 1000) (by omega) (by omega)).1, (cut_in ((P : Int) / 1000) (by omega) (by omega)).2]
    subst e1
    rw [← e2] at hin ⊢
    clear e2 hq hn hT hs b1 h3
    clear hsg
    cases x <;> cases y <;> cases x0 <;> cases y0 <;> simp at hm
    all_goals
      clear hm
      go_enter Try.func66, Try.ntmps66
      go_wp2_with (first | (go_at_call 86; refine (refsize_any _ (by assumption) (by assumption) _).mono ?_; rintro e w' ⟨rfl, rfl⟩) | (go_at_call 85; refine (wide_P _ _ P hP (by omega) (by omega) _).mono ?_; rintro e w' ⟨rfl, rfl⟩) | (go_at_call 87; refine (HT.out _).mono ?_; rintro e w' ⟨rfl, rfl⟩))
      go_ret2
      exact ⟨rfl, rfl⟩
  · rw [(cut_hi ((P : Int) / 1000) (by omega)).1, (cut_hi ((P : Int) / 1000) (by omega)).2]
    have hor : 0 < q ∨ (q = 0 ∧ 9223372036854775807 < n) := by omega
    clear hq hn hT hs h3 hin
    clear hsg
    rcases hor with h4 | ⟨rfl, h4⟩
    all_goals
      cases x <;> cases y <;> cases x0 <;> cases y0 <;> simp at hm
      all_goals
        clear hm
        go_enter Try.func66, Try.ntmps66
        go_wp2_with (first | (go_at_call 86; refine (refsize_any _ (by assumption) (by assumption) _).mono ?_; rintro e w' ⟨rfl, rfl⟩) | (go_at_call 85; refine (wide_P _ _ P hP (by omega) (by omega) _).mono ?_; rintro e w' ⟨rfl, rfl⟩) | (go_at_call 87; refine (HT.out _).mono ?_; rintro e w' ⟨rfl, rfl⟩))
        go_ret2
        exact ⟨rfl, rfl⟩

set_option maxRecDepth 100000 in
set_option maxHeartbeats 4000000 in
theorem refmul_minus (a b : Int) (ha : -9223372036854775808 ≤ a) (ha' : a ≤ 9223372036854775807) (hb : -9223372036854775808 ≤ b) (hb' : b ≤ 9223372036854775807) (P : Nat) (hP : a.natAbs * b.natAbs = P)
    (hsgn : decide (a < 0) ≠ decide (b < 0)) (ha0 : a ≠ 0) (hb0 : b ≠ 0) (w : World) :
    Calls Try.prog 66 #[.int .i64 a, .int .i64 b] w (Two (cutV (-(P : Int) / 1000)) (cutE (-(P : Int) / 1000)) w) := by
  have h1 := abs_le a ha ha'
  have h2 := abs_le b hb hb'
  have h3 := abs_prod a b ha ha' hb hb'
  rw [hP] at h3
  have hT := fun w => thousandth_P (P : Int) _ _ _ (by omega) rfl rfl rfl h3 w
  obtain ⟨q, hq⟩ : ∃ n : Int, (P : Int) / 18446744073709551616000 = n := ⟨_, rfl⟩
  obtain ⟨n, hn⟩ : ∃ n : Int, (P : Int) / 1000 % 18446744073709551616 = n := ⟨_, rfl⟩
  obtain ⟨s, hs⟩ : ∃ n : Int, (P : Int) % 1000 = n := ⟨_, rfl⟩
  rw [hq, hn, hs] at hT
  have HT := Lib.hid hT
  have b1 : 0 ≤ q := by omega
  have b2 : 0 ≤ n ∧ n < 18446744073709551616 := by omega
  obtain ⟨b2a, b2b⟩ := b2
  have x0 : (a != 0) = true := by rw [bne_iff_ne]; exact ha0
  have y0 : (b != 0) = true := by rw [bne_iff_ne]; exact hb0
  obtain ⟨y, hy⟩ : ∃ x, decide (b < 0) = x := ⟨_, rfl⟩
  have hx : decide (a < 0) = !y := by rw [← hy]; revert hsgn; cases decide (a < 0) <;> cases decide (b < 0) <;> simp
  have hs0 : 0 ≤ s := by omega
  by_cases hin : (P : Int) ≤ 9223372036854775808000
  · have e1 : q = 0 := by omega
    obtain ⟨z, hz⟩ : ∃ z : Int, -(P : Int) / 1000 = z := ⟨_, rfl⟩
    have e2 : (s = 0 ∧ z = -n ∧ n ≤ 9223372036854775808) ∨ (0 < s ∧ z = -(n + 1) ∧ n + 1 ≤ 9223372036854775808) := by omega
    rw [hz, (cut_in z (by omega) (by omega)).1, (cut_in z (by omega) (by omega)).2]
    subst e1
    clear hq hn hT hs b1 h3 hsgn ha0 hb0 hz hin
    rcases e2 with ⟨rfl, rfl, h4⟩ | ⟨h5, rfl, h4⟩
    · obtain ⟨z, hz⟩ : ∃ z : Int, -n = z := ⟨_, rfl⟩
      have k' : wrap64 (IntKind.u64.wrap z) = z := by unfold wrap64; rw [IntKind.wrap_u64]; omega
      rw [hz]
      cases y
      all_goals
        go_enter Try.func66, Try.ntmps66
        go_wp2_with (first | (go_at_call 86; refine (refsize_any _ (by assumption) (by assumption) _).mono ?_; rintro e w' ⟨rfl, rfl⟩) | (go_at_call 85; refine (wide_P _ _ P hP (by omega) (by omega) _).mono ?_; rintro e w' ⟨rfl, rfl⟩) | (go_at_call 87; refine (HT.out _).mono ?_; rintro e w' ⟨rfl, rfl⟩))
        go_ret2
        exact ⟨by simp [*], rfl⟩
    · obtain ⟨z, hz⟩ : ∃ z : Int, -(n + 1) = z := ⟨_, rfl⟩
      obtain ⟨n', hn'⟩ : ∃ n' : Int, n + 1 = n' := ⟨_, rfl⟩
      have hz' : -n' = z := by omega
      have c1 : 1 ≤ n' := by omega
      have c2 : n' ≤ 9223372036854775808 := by omega
      have c3 : (n' == 0) = false := by rw [beq_eq_false_iff_ne]; omega
      have k' : wrap64 (IntKind.u64.wrap z) = z := by unfold wrap64; rw [IntKind.wrap_u64]; omega
      rw [hz]
      clear hz h4
      cases y
      all_goals
        go_enter Try.func66, Try.ntmps66
        go_wp2_with (first | (go_at_call 86; refine (refsize_any _ (by assumption) (by assumption) _).mono ?_; rintro e w' ⟨rfl, rfl⟩) | (go_at_call 85; refine (wide_P _ _ P hP (by omega) (by omega) _).mono ?_; rintro e w' ⟨rfl, rfl⟩) | (go_at_call 87; refine (HT.out _).mono ?_; rintro e w' ⟨rfl, rfl⟩))
        go_ret2
        exact ⟨by simp [*], rfl⟩
  · rw [(cut_lo (-(P : Int) / 1000) (by omega)).1, (cut_lo (-(P : Int) / 1000) (by omega)).2]
    have e2 : (s = 0 ∧ ((q = 0 ∧ 9223372036854775808 < n) ∨ 0 < q)) ∨ (0 < s ∧ ((q = 0 ∧ n < 18446744073709551615 ∧ 9223372036854775808 < n + 1) ∨ n = 18446744073709551615 ∨ (0 < q ∧ n < 18446744073709551615))) := by omega
    have bq : q ≤ 4611686018427387 := by omega
    clear hq hn hT hs h3 hsgn ha0 hb0 hin
    rcases e2 with ⟨rfl, ⟨rfl, h4⟩ | h4⟩ | ⟨h5, ⟨rfl, h6, h4⟩ | rfl | ⟨h4, h6⟩⟩
    · cases y
      all_goals
        go_enter Try.func66, Try.ntmps66
        go_wp2_with (first | (go_at_call 86; refine (refsize_any _ (by assumption) (by assumption) _).mono ?_; rintro e w' ⟨rfl, rfl⟩) | (go_at_call 85; refine (wide_P _ _ P hP (by omega) (by omega) _).mono ?_; rintro e w' ⟨rfl, rfl⟩) | (go_at_call 87; refine (HT.out _).mono ?_; rintro e w' ⟨rfl, rfl⟩))
        go_ret2
        exact ⟨by simp [*], rfl⟩
    · cases y
      all_goals
        go_enter Try.func66, Try.ntmps66
        go_wp2_with (first | (go_at_call 86; refine (refsize_any _ (by assumption) (by assumption) _).mono ?_; rintro e w' ⟨rfl, rfl⟩) | (go_at_call 85; refine (wide_P _ _ P hP (by omega) (by omega) _).mono ?_; rintro e w' ⟨rfl, rfl⟩) | (go_at_call 87; refine (HT.out _).mono ?_; rintro e w' ⟨rfl, rfl⟩))
        go_ret2
        exact ⟨by simp [*], rfl⟩
    · have c3 : (n + 1 == 0) = false := by rw [beq_eq_false_iff_ne]; omega
      cases y
      all_goals
        go_enter Try.func66, Try.ntmps66
        go_wp2_with (first | (go_at_call 86; refine (refsize_any _ (by assumption) (by assumption) _).mono ?_; rintro e w' ⟨rfl, rfl⟩) | (go_at_call 85; refine (wide_P _ _ P hP (by omega) (by omega) _).mono ?_; rintro e w' ⟨rfl, rfl⟩) | (go_at_call 87; refine (HT.out _).mono ?_; rintro e w' ⟨rfl, rfl⟩))
        go_ret2
        exact ⟨by simp [*], rfl⟩
    · have k0 : IntKind.u64.wrap 18446744073709551616 = 0 := by decide
      cases y
      all_goals
        go_enter Try.func66, Try.ntmps66
        go_wp2_with (first | (go_at_call 86; refine (refsize_any _ (by assumption) (by assumption) _).mono ?_; rintro e w' ⟨rfl, rfl⟩) | (go_at_call 85; refine (wide_P _ _ P hP (by omega) (by omega) _).mono ?_; rintro e w' ⟨rfl, rfl⟩) | (go_at_call 87; refine (HT.out _).mono ?_; rintro e w' ⟨rfl, rfl⟩))
        go_ret2
        exact ⟨by simp [*], rfl⟩
    · have c3 : (n + 1 == 0) = false := by rw [beq_eq_false_iff_ne]; omega
      cases y
      all_goals
        go_enter Try.func66, Try.ntmps66
        go_wp2_with (first | (go_at_call 86; refine (refsize_any _ (by assumption) (by assumption) _).mono ?_; rintro e w' ⟨rfl, rfl⟩) | (go_at_call 85; refine (wide_P _ _ P hP (by omega) (by omega) _).mono ?_; rintro e w' ⟨rfl, rfl⟩) | (go_at_call 87; refine (HT.out _).mono ?_; rintro e w' ⟨rfl, rfl⟩))
        go_ret2
        exact ⟨by simp [*], rfl⟩

/-- The document's own product: the same numbers as package milli's. -/
theorem refmul_any (a b : Int) (ha : -9223372036854775808 ≤ a) (ha' : a ≤ 9223372036854775807) (hb : -9223372036854775808 ≤ b) (hb' : b ≤ 9223372036854775807) (w : World) :
    Calls Try.prog 66 #[.int .i64 a, .int .i64 b] w (Two (cutV (mulI a b)) (cutE (mulI a b)) w) := by
  have hsg := abs_mul a b
  unfold mulI
  by_cases hs : decide (a < 0) = decide (b < 0)
  · rw [hsg.1 hs]
    exact refmul_plus a b ha ha' hb hb' _ rfl (.inl hs) w
  · by_cases ha0 : a = 0
    · have := refmul_plus a b ha ha' hb hb' _ rfl (.inr (.inl ha0)) w
      subst ha0
      simpa using this
    · by_cases hb0 : b = 0
      · have := refmul_plus a b ha ha' hb hb' _ rfl (.inr (.inr hb0)) w
        subst hb0
        simpa using this
      · rw [hsg.2 hs]
        exact refmul_minus a b ha ha' hb hb' _ rfl hs ha0 hb0 w
end Go.Proofs.Ytdkebjdhpioehaa.Mil
