/- The contract of package milli's product: a times b by a thousand, towards minus infinity, cut at the ends of 64 bits. -/
import Derived.Test.YtfnadebkobfemaaMilAdd
import Derived.Lib.Hide
import Derived.Lib.Mul64
import Derived.Laws.Bits64b
import Derived.Shelf.Bits.Mul64
import Derived.Deep.QuietTactic
import Derived.BigQuiet
import Derived.Handy
namespace Go.Proofs.Ytfnadebkobfemaa.Mil
open Go.ChangeShapes Go.WideShapes Go.ChangeAt Go.RowKit
set_option linter.unusedVariables false
set_option linter.unusedSimpArgs false

def OneU (v : Int) (w : World) (e : Ending) (w' : World) : Prop := e = .returned (.int .u64 v) ∧ w = w'
def TwoU (v c : Int) (w : World) (e : Ending) (w' : World) : Prop := e = .returned (.tuple #[.int .u64 v, .int .u64 c]) ∧ w = w'

theorem size_any (a : Int) (ha : -9223372036854775808 ≤ a) (ha' : a ≤ 9223372036854775807) (w : World) :
    Calls Try.prog 107 #[.int .i64 a] w (OneU (a.natAbs : Nat) w) := by
  by_cases h : a < 0
  · have e1 : IntKind.u64.wrap a = a + 18446744073709551616 := by rw [IntKind.wrap_u64]; omega
    have e2 : IntKind.u64.wrap (-(a + 18446744073709551616)) = (a.natAbs : Nat) := by rw [IntKind.wrap_u64]; omega
    obtain ⟨c, hc⟩ : ∃ c : Int, a + 18446744073709551616 = c := ⟨_, rfl⟩
    rw [hc] at e1 e2
    clear hc
    go_enter Try.func107, Try.ntmps107
    go_wp2
    go_ret
    exact ⟨by simp [*], rfl⟩
  · have e1 : IntKind.u64.wrap a = (a.natAbs : Nat) := by rw [IntKind.wrap_u64]; omega
    go_enter Try.func107, Try.ntmps107
    go_wp2
    go_ret
    exact ⟨by simp [*], rfl⟩

set_option maxHeartbeats 1000000 in
theorem mul64_any (x y : Nat) (hx : x < 18446744073709551616) (hy : y < 18446744073709551616) (w : World) :
    Calls Try.prog 106 #[.int .u64 x, .int .u64 y] w (TwoU ((x * y / 18446744073709551616 : Nat) : Int) ((x * y % 18446744073709551616 : Nat) : Int) w) := by
  obtain ⟨bd, bt, bw, hhi⟩ := Lib.mul64_hi x y hx hy
  have ba := Lib.half_mul_le (a := x / 4294967296) (b := y / 4294967296) (by omega) (by omega)
  have bb := Lib.half_mul_le (a := x / 4294967296) (b := y % 4294967296) (by omega) (by omega)
  have bc := Lib.half_mul_le (a := x % 4294967296) (b := y / 4294967296) (by omega) (by omega)
  have ba' : x / 4294967296 * (y / 4294967296) < 18446744073709551616 := by omega
  have bb' : x / 4294967296 * (y % 4294967296) < 18446744073709551616 := by omega
  have bc' : x % 4294967296 * (y / 4294967296) < 18446744073709551616 := by omega
  have bh1 : x / 4294967296 * (y / 4294967296) + (x / 4294967296 * (y % 4294967296) + x % 4294967296 * (y % 4294967296) / 4294967296) / 4294967296 < 18446744073709551616 := by omega
  have bh : x / 4294967296 * (y / 4294967296) + (x / 4294967296 * (y % 4294967296) + x % 4294967296 * (y % 4294967296) / 4294967296) / 4294967296 + ((x / 4294967296 * (y % 4294967296) + x % 4294967296 * (y % 4294967296) / 4294967296) % 4294967296 + x % 4294967296 * (y / 4294967296)) / 4294967296 < 18446744073709551616 := by omega
  go_enter Try.func106, Try.ntmps106
  go_wp2
  simp only [Mul64.maskN x hx, Mul64.maskN y hy, Mul64.divN, Mul64.mulN, Mul64.addN, Mul64.wrapN _ bd, Mul64.wrapN _ bb', Mul64.wrapN _ bt, Mul64.maskN _ bt, Mul64.wrapN _ bc', Mul64.wrapN _ bw, Mul64.wrapN _ ba', Mul64.wrapN _ bh1, Mul64.wrapN _ bh, Mul64.wrapM (x * y)]
  rw [hhi]
  go_ret2
  exact ⟨rfl, rfl⟩

set_option maxRecDepth 100000 in
theorem lead_1000 (w : World) : Calls Try.prog 112 #[.int .u64 1000] w (One 54 w) := by
  go_enter Try.func112, Try.ntmps112
  go_wp2
  go_ret
  exact ⟨by kernel_rfl, rfl⟩

/-- The order in which two operations of one statement were done has been drawn, nothing else has happened. -/
def TwoUD (v c : Int) (w : World) (e : Ending) (w' : World) : Prop := e = .returned (.tuple #[.int .u64 v, .int .u64 c]) ∧ ∃ n, w' = w.drewN n

set_option maxHeartbeats 1000000 in
theorem div64_small (lo : Nat) (h2 : lo < 18446744073709551616) (w : World) :
    Calls Try.prog 109 #[.int .u64 0, .int .u64 lo, .int .u64 1000] w (TwoUD ((lo / 1000 : Nat) : Int) ((lo % 1000 : Nat) : Int) w) := by
  have e1 : IntKind.u64.wrap ((lo : Int) / 1000) = (lo : Int) / 1000 := by rw [IntKind.wrap_u64]; omega
  go_enter Try.func109, Try.ntmps109
  go_wp2
  go_quiet (fail)
  go_wp2
  go_ret2
  exact ⟨rfl, _, rfl⟩

theorem or_low (h l : Nat) (hh : h < 1000) (hl : l < 18014398509481984) : bits .or .u64 ((h : Int) * 18014398509481984) (l : Int) = (h : Int) * 18014398509481984 + l := by
  have e := bits_or_u64_nat (h * 18014398509481984) l (by omega) (by omega)
  have e2 := Nat.shiftLeft_add_eq_or_of_lt (i := 54) (show l < 2 ^ 54 from hl) h
  rw [Nat.shiftLeft_eq] at e2
  have e3 : ((h * 18014398509481984 : Nat) : Int) = (h : Int) * 18014398509481984 := by rw [Int.natCast_mul]; rfl
  rw [e3] at e
  rw [e, ← e3, ← Int.natCast_add]
  exact congrArg Int.ofNat e2.symm

theorem back1 (U q1 r1 u a b c V : Int) (e1 : U = q1 * 4194304000 + r1) (hV : V = r1 * 4294967296 + u) (b0 : 0 ≤ V) (b1 : V < 18446744073709551616)
    (ha : IntKind.u64.wrap (U * 4294967296) = a) (hb : IntKind.u64.wrap (a + u) = b) (hc : IntKind.u64.wrap (q1 * 18014398509481984000) = c) : IntKind.u64.wrap (b - c) = V := by
  rw [IntKind.wrap_u64] at *
  omega
theorem back2 (V q0 r0 a c : Int) (e1 : V = q0 * 4194304000 + r0) (b0 : 0 ≤ r0) (b1 : r0 < 4194304000)
    (ha : IntKind.u64.wrap (V * 4294967296) = a) (hc : IntKind.u64.wrap (q0 * 18014398509481984000) = c) : IntKind.u64.wrap (a - c) = r0 * 4294967296 := by
  rw [IntKind.wrap_u64] at *
  omega
theorem quo_way (N hi lo x U u q1 r1 V q0 r0 : Int) (hN : N = hi * 18446744073709551616 + lo) (hU : U = hi * 18014398509481984 + lo / 1024) (hu : u = (lo % 1024) * 4194304)
    (e1 : U = q1 * 4194304000 + r1) (hV : V = r1 * 4294967296 + u) (e0 : V = q0 * 4194304000 + r0) (b0 : 0 ≤ r0) (b1 : r0 < 4194304000) :
    N / 1000 = q1 * 4294967296 + q0 ∧ N % 1000 = r0 / 4194304 := by
  have h : N * 4194304 = (q1 * 4294967296 + q0) * 4194304000 + r0 := by omega
  clear hN hU hu e1 hV e0
  generalize q1 * 4294967296 + q0 = Q at *
  omega

set_option maxRecDepth 100000 in
set_option maxHeartbeats 2000000 in
theorem div64_great (hi lo : Nat) (h0 : 1 ≤ hi) (h1 : hi < 1000) (h2 : lo < 18446744073709551616) (w : World) :
    Calls Try.prog 109 #[.int .u64 hi, .int .u64 lo, .int .u64 1000] w (TwoU (((hi : Int) * 18446744073709551616 + lo) / 1000) (((hi : Int) * 18446744073709551616 + lo) % 1000) w) := by
  have hor := or_low hi (lo / 1024) h1 (by omega)
  rw [show ((lo / 1024 : Nat) : Int) = (lo : Int) / 1024 from rfl] at hor
  have hand0 : bits .and .u64 18014398509481984000 4294967295 = 0 := by decide
  obtain ⟨U, hU⟩ : ∃ U : Int, U = (hi : Int) * 18014398509481984 + (lo : Int) / 1024 := ⟨_, rfl⟩
  obtain ⟨u, hu⟩ : ∃ u : Int, u = ((lo : Int) % 1024) * 4194304 := ⟨_, rfl⟩
  obtain ⟨L, hL⟩ : ∃ L : Int, L = u * 4294967296 := ⟨_, rfl⟩
  obtain ⟨q1, hq1⟩ : ∃ q1 : Int, U / 4194304000 = q1 := ⟨_, rfl⟩
  obtain ⟨r1, hr1⟩ : ∃ r1 : Int, U - q1 * 4194304000 = r1 := ⟨_, rfl⟩
  obtain ⟨V, hV⟩ : ∃ V : Int, V = r1 * 4294967296 + u := ⟨_, rfl⟩
  obtain ⟨q0, hq0⟩ : ∃ q0 : Int, V / 4194304000 = q0 := ⟨_, rfl⟩
  obtain ⟨r0, hr0⟩ : ∃ r0 : Int, V - q0 * 4194304000 = r0 := ⟨_, rfl⟩
  have c0 : 0 ≤ u ∧ u < 4294967296 := by omega
  have c1 : 0 ≤ U ∧ U < 18014398509481984000 := by omega
  have c2 : 0 ≤ q1 ∧ q1 < 4294967296 := by omega
  have c3 : 0 ≤ r1 ∧ r1 < 4194304000 := by omega
  have c4 : 0 ≤ V ∧ V < 18014398509481984000 := by omega
  have c5 : 0 ≤ q0 ∧ q0 < 4294967296 := by omega
  have c6 : 0 ≤ r0 ∧ r0 < 4194304000 := by omega
  obtain ⟨a, f1⟩ : ∃ a : Int, IntKind.u64.wrap (U * 4294967296) = a := ⟨_, rfl⟩
  obtain ⟨b, f2⟩ : ∃ b : Int, IntKind.u64.wrap (a + u) = b := ⟨_, rfl⟩
  obtain ⟨c, f3⟩ : ∃ c : Int, IntKind.u64.wrap (q1 * 18014398509481984000) = c := ⟨_, rfl⟩
  have f4 := back1 U q1 r1 u a b c V (by omega) hV c4.1 (by omega) f1 f2 f3
  obtain ⟨a', g1⟩ : ∃ a : Int, IntKind.u64.wrap (V * 4294967296) = a := ⟨_, rfl⟩
  obtain ⟨c', g2⟩ : ∃ c : Int, IntKind.u64.wrap (q0 * 18014398509481984000) = c := ⟨_, rfl⟩
  have g3 := back2 V q0 r0 a' c' (by omega) c6.1 c6.2 g1 g2
  obtain ⟨d, hd⟩ : ∃ d : Int, r0 * 4294967296 = d := ⟨_, rfl⟩
  have g4 : d / 18014398509481984 = r0 / 4194304 := by omega
  have hQ := quo_way _ hi lo 0 U u q1 r1 V q0 r0 rfl hU hu (by omega) hV (by omega) c6.1 c6.2
  rw [hQ.1, hQ.2]
  have k1 : IntKind.u64.wrap ((lo : Int) * 18014398509481984) = L := by rw [IntKind.wrap_u64]; omega
  have k2 : L / 4294967296 = u := by omega
  have c7 : 0 ≤ L ∧ L < 18446744073709551616 := by omega
  have k3 : bits .and .u64 L 4294967295 = 0 := by
    obtain ⟨n, rfl⟩ := Int.eq_ofNat_of_zero_le c7.1
    rw [Mul64.maskN n (by omega)]
    have : n % 4294967296 = 0 := by omega
    rw [this]; rfl
  rw [hd] at g3
  obtain ⟨R, hR⟩ : ∃ R : Int, r0 / 4194304 = R := ⟨_, rfl⟩
  rw [hR] at g4 ⊢
  rw [← hU] at hor
  have a0 : 0 ≤ (a : Int) := by rw [IntKind.wrap_u64] at f1; omega
  have a1 : 0 ≤ b := by rw [IntKind.wrap_u64] at f2; omega
  have a2 : 0 ≤ d := by omega
  have a3 : 0 ≤ a' ∧ a' ≤ 18446744073709551615 := by rw [IntKind.wrap_u64] at g1; omega
  obtain ⟨a3a, a3b⟩ := a3
  clear hU hu hL hV hR hd hQ
  obtain ⟨c0a, c0b⟩ := c0
  obtain ⟨c1a, c1b⟩ := c1
  obtain ⟨c2a, c2b⟩ := c2
  obtain ⟨c3a, c3b⟩ := c3
  obtain ⟨c4a, c4b⟩ := c4
  obtain ⟨c5a, c5b⟩ := c5
  obtain ⟨c6a, c6b⟩ := c6
  clear c7
  have hne : ((hi : Int) == 0) = false := by rw [beq_eq_false_iff_ne]; omega
  have n1 : decide (4294967296 ≤ q1) = false := by rw [decide_eq_false_iff_not]; omega
  have n2 : decide (4294967296 ≤ q0) = false := by rw [decide_eq_false_iff_not]; omega
  go_enter Try.func109, Try.ntmps109
  go_wp2_with (go_at_call 112; refine (lead_1000 _).mono ?_; rintro e w' ⟨rfl, rfl⟩)
  go_rounds 1
  go_rounds 1
  go_ret2
  exact ⟨by simp [hq1, hq0], rfl⟩

/-- what package milli hands on inside: an exact number, an end, each as an interface value -/
def Gives (v : Value) (w : World) (e : Ending) (w' : World) : Prop := e = .returned v ∧ ∃ n, w' = w.drewN n

theorem end_yes (w : World) : Calls Try.prog 108 #[.bool true] w (One (-9223372036854775808) w) := by
  go_enter Try.func108, Try.ntmps108
  go_wp2
  go_ret
  exact ⟨rfl, rfl⟩
theorem end_no (w : World) : Calls Try.prog 108 #[.bool false] w (One 9223372036854775807 w) := by
  go_enter Try.func108, Try.ntmps108
  go_wp2
  go_ret
  exact ⟨rfl, rfl⟩

/-- minus a number, and one less if something is left -/
theorem below_in (n : Int) (more : Bool) (h0 : 0 ≤ n) (h1 : n + (if more then 1 else 0) ≤ 9223372036854775808) (w : World) :
    Calls Try.prog 110 #[.int .u64 n, .bool more] w fun e w' => e = .returned (.iface 165 (.int .i64 (-n - (if more then 1 else 0)))) ∧ w = w' := by
  by_cases hn : n = 9223372036854775808
  · subst hn
    cases more
    · go_enter Try.func110, Try.ntmps110
      go_wp2
      go_ret
      exact ⟨by kernel_rfl, rfl⟩
    · simp at h1
  · have e1 : (n == 9223372036854775808) = false := by rw [beq_eq_false_iff_ne]; exact hn
    have h2 : n ≤ 9223372036854775807 := by cases more <;> simp at h1 <;> omega
    clear hn
    cases more <;> simp at h1 ⊢
    all_goals
      go_enter Try.func110, Try.ntmps110
      go_wp2
      go_ret
      exact ⟨by simp, rfl⟩
theorem below_over (n : Int) (more : Bool) (h0 : 0 ≤ n) (h2 : n ≤ 18446744073709551615) (h1 : 9223372036854775808 < n + (if more then 1 else 0)) (w : World) :
    Calls Try.prog 110 #[.int .u64 n, .bool more] w fun e w' => e = .returned (.iface 167 (.int .i64 (-9223372036854775808))) ∧ w = w' := by
  by_cases hn : n = 9223372036854775808
  · subst hn
    cases more
    · simp at h1
    · go_enter Try.func110, Try.ntmps110
      go_wp2
      go_ret
      exact ⟨rfl, rfl⟩
  · have h3 : 9223372036854775808 < n := by cases more <;> simp at h1 <;> omega
    have e1 : (n == 9223372036854775808) = false := by rw [beq_eq_false_iff_ne]; exact hn
    clear hn h1
    cases more
    all_goals
      go_enter Try.func110, Try.ntmps110
      go_wp2
      go_ret
      exact ⟨rfl, rfl⟩
end Go.Proofs.Ytfnadebkobfemaa.Mil
