/- Package milli's product: its contract for every two numbers of 64 bits. -/
import Derived.Test.YtfnadebkobfemaaMilMul
namespace Go.Proofs.Ytfnadebkobfemaa.Mil
open Go.ChangeShapes Go.WideShapes Go.ChangeAt Go.RowKit
set_option linter.unusedVariables false
set_option linter.unusedSimpArgs false

theorem div64_P (P : Nat) (h : P < 18446744073709551616000) (w : World) :
    Calls Try.prog 109 #[.int .u64 ((P / 18446744073709551616 : Nat) : Int), .int .u64 ((P % 18446744073709551616 : Nat) : Int), .int .u64 1000] w (TwoUD ((P / 1000 : Nat) : Int) ((P % 1000 : Nat) : Int) w) := by
  obtain ⟨hi, hhi⟩ : ∃ hi, P / 18446744073709551616 = hi := ⟨_, rfl⟩
  obtain ⟨lo, hlo⟩ : ∃ lo, P % 18446744073709551616 = lo := ⟨_, rfl⟩
  have b1 : hi < 1000 := by omega
  have b2 : lo < 18446744073709551616 := by omega
  have e : (P : Int) = (hi : Int) * 18446744073709551616 + lo := by omega
  rw [hhi, hlo]
  by_cases h0 : hi = 0
  · subst h0
    have e2 : P = lo := by omega
    subst e2
    exact div64_small P b2 w
  · refine (div64_great hi lo (by omega) b1 b2 w).mono fun e' w' ⟨h1, h2⟩ => ⟨?_, 0, h2.symm⟩
    rw [h1, ← e]
    rfl
theorem mul64_P (x y P : Nat) (hP : x * y = P) (hx : x < 18446744073709551616) (hy : y < 18446744073709551616) (w : World) :
    Calls Try.prog 106 #[.int .u64 x, .int .u64 y] w (TwoU ((P / 18446744073709551616 : Nat) : Int) ((P % 18446744073709551616 : Nat) : Int) w) := by
  subst hP
  exact mul64_any x y hx hy w

theorem abs_mul (a b : Int) : (decide (a < 0) = decide (b < 0) → a * b = ((a.natAbs * b.natAbs : Nat) : Int)) ∧ (decide (a < 0) ≠ decide (b < 0) → a * b = -((a.natAbs * b.natAbs : Nat) : Int)) := by
  rw [Int.natCast_mul]
  by_cases h1 : a < 0 <;> by_cases h2 : b < 0
  · rw [show ((a.natAbs : Nat) : Int) = -a by omega, show ((b.natAbs : Nat) : Int) = -b by omega]
    simp [h1, h2, Int.neg_mul_neg]
  · rw [show ((a.natAbs : Nat) : Int) = -a by omega, show ((b.natAbs : Nat) : Int) = b by omega]
    simp [h1, h2, Int.neg_mul]
  · rw [show ((a.natAbs : Nat) : Int) = a by omega, show ((b.natAbs : Nat) : Int) = -b by omega]
    simp [h1, h2, Int.mul_neg]
  · rw [show ((a.natAbs : Nat) : Int) = a by omega, show ((b.natAbs : Nat) : Int) = b by omega]
    simp [h1, h2]

theorem abs_le (a : Int) (ha : -9223372036854775808 ≤ a) (ha' : a ≤ 9223372036854775807) : a.natAbs ≤ 9223372036854775808 := by omega

theorem drewN_drewN (w : World) (m n : Nat) : ∃ k, (w.drewN m).drewN n = w.drewN k := by
  refine ⟨m + n, ?_⟩
  induction n with
  | zero => rfl
  | succ n ih => show ((w.drewN m).drewN n).drew = (w.drewN (m + n)).drew; rw [ih]

set_option maxRecDepth 100000 in
set_option maxHeartbeats 2000000 in
theorem prod_plus (a b : Int) (ha : -9223372036854775808 ≤ a) (ha' : a ≤ 9223372036854775807) (hb : -9223372036854775808 ≤ b) (hb' : b ≤ 9223372036854775807) (P : Nat) (hP : a.natAbs * b.natAbs = P)
    (hs : decide (a < 0) = decide (b < 0)) (w : World) :
    Calls Try.prog 104 #[.int .i64 a, .int .i64 b] w (Gives (if P / 1000 ≤ 9223372036854775807 then .iface 165 (.int .i64 ((P / 1000 : Nat) : Int)) else .iface 167 (.int .i64 9223372036854775807)) w) := by
  have h1 := abs_le a ha ha'
  have h2 := abs_le b hb hb'
  obtain ⟨s, hs1⟩ : ∃ s, decide (b < 0) = s := ⟨_, rfl⟩
  rw [hs1] at hs
  by_cases hbig : P < 18446744073709551616000
  · have hlt : ((P / 18446744073709551616 : Nat) : Int) < 1000 := by omega
    have hm : P / 1000 < 18446744073709551616 := by omega
    by_cases hin : P / 1000 ≤ 9223372036854775807
    · rw [if_pos hin]
      have e1 : ((P : Int) / 1000) ≤ 9223372036854775807 := by omega
      have e2 : (0 : Int) ≤ ((P : Int) / 1000) := by omega
      go_enter Try.func104, Try.ntmps104
      go_wp2_with (first | (go_at_call 107; refine (size_any _ (by assumption) (by assumption) _).mono ?_; rintro e w' ⟨rfl, rfl⟩) | (go_at_call 106; refine (mul64_P _ _ P hP (by omega) (by omega) _).mono ?_; rintro e w' ⟨rfl, rfl⟩) | (go_at_call 109; refine (div64_P P hbig _).mono ?_; rintro e w' ⟨rfl, n, rfl⟩))
      go_ret
      exact ⟨rfl, _, rfl⟩
    · rw [if_neg hin]
      have e1 : (9223372036854775807 : Int) < ((P : Int) / 1000) := by omega
      clear hin
      go_enter Try.func104, Try.ntmps104
      go_wp2_with (first | (go_at_call 107; refine (size_any _ (by assumption) (by assumption) _).mono ?_; rintro e w' ⟨rfl, rfl⟩) | (go_at_call 106; refine (mul64_P _ _ P hP (by omega) (by omega) _).mono ?_; rintro e w' ⟨rfl, rfl⟩) | (go_at_call 109; refine (div64_P P hbig _).mono ?_; rintro e w' ⟨rfl, n, rfl⟩) | (go_at_call 108; refine (end_no _).mono ?_; rintro e w' ⟨rfl, rfl⟩))
      go_ret
      exact ⟨rfl, _, rfl⟩
  · rw [if_neg (by omega)]
    have hlt : 1000 ≤ ((P / 18446744073709551616 : Nat) : Int) := by omega
    go_enter Try.func104, Try.ntmps104
    go_wp2_with (first | (go_at_call 107; refine (size_any _ (by assumption) (by assumption) _).mono ?_; rintro e w' ⟨rfl, rfl⟩) | (go_at_call 106; refine (mul64_P _ _ P hP (by omega) (by omega) _).mono ?_; rintro e w' ⟨rfl, rfl⟩) | (go_at_call 108; refine (end_no _).mono ?_; rintro e w' ⟨rfl, rfl⟩))
    go_ret
    exact ⟨rfl, 0, rfl⟩

theorem below_z (n z : Int) (more : Bool) (h0 : 0 ≤ n) (h1 : RowKit.Hid (n + (if more then 1 else 0) ≤ 9223372036854775808)) (hz : RowKit.Hid (-n - (if more then 1 else 0) = z)) (w : World) :
    Calls Try.prog 110 #[.int .u64 n, .bool more] w fun e w' => e = .returned (.iface 165 (.int .i64 z)) ∧ w = w' := by
  rw [← hz.out]
  exact below_in n more h0 h1.out w

set_option maxRecDepth 100000 in
set_option maxHeartbeats 2000000 in
theorem prod_minus (a b : Int) (ha : -9223372036854775808 ≤ a) (ha' : a ≤ 9223372036854775807) (hb : -9223372036854775808 ≤ b) (hb' : b ≤ 9223372036854775807) (P : Nat) (hP : a.natAbs * b.natAbs = P)
    (hs : decide (a < 0) ≠ decide (b < 0)) (w : World) :
    Calls Try.prog 104 #[.int .i64 a, .int .i64 b] w (Gives (if P ≤ 9223372036854775808000 then .iface 165 (.int .i64 (-((P / 1000 : Nat) : Int) - if (0 : Int) < ((P % 1000 : Nat) : Int) then 1 else 0)) else .iface 167 (.int .i64 (-9223372036854775808))) w) := by
  have h1 := abs_le a ha ha'
  have h2 := abs_le b hb hb'
  obtain ⟨s, hs1⟩ : ∃ s, decide (b < 0) = s := ⟨_, rfl⟩
  have hs2 : decide (a < 0) = !s := by rw [← hs1]; revert hs; cases decide (a < 0) <;> cases decide (b < 0) <;> simp
  clear hs
  obtain ⟨m, hm0⟩ : ∃ m, decide ((0 : Int) < ((P % 1000 : Nat) : Int)) = m := ⟨_, rfl⟩
  have hm1 : (if m then 1 else 0 : Int) = if (0 : Int) < ((P % 1000 : Nat) : Int) then 1 else 0 := by rw [← hm0]; simp
  by_cases hbig : P < 18446744073709551616000
  · have hlt : ((P / 18446744073709551616 : Nat) : Int) < 1000 := by omega
    have hm : P / 1000 < 18446744073709551616 := by omega
    have hm0' : decide ((0 : Int) < (P : Int) % 1000) = m := hm0
    by_cases hin : P ≤ 9223372036854775808000
    · rw [if_pos hin, ← hm1]
      have hk : ((P / 1000 : Nat) : Int) + (if m then 1 else 0) ≤ 9223372036854775808 := by
        rw [hm1]; split <;> omega
      have HK := Lib.hid hk
      obtain ⟨z, hz⟩ : ∃ z : Int, -((P / 1000 : Nat) : Int) - (if m then 1 else 0) = z := ⟨_, rfl⟩
      rw [hz]
      have HZ := Lib.hid hz
      clear hk hm1 hm0 hz
      go_enter Try.func104, Try.ntmps104
      go_wp2_with (first | (go_at_call 107; refine (size_any _ (by assumption) (by assumption) _).mono ?_; rintro e w' ⟨rfl, rfl⟩) | (go_at_call 106; refine (mul64_P _ _ P hP (by omega) (by omega) _).mono ?_; rintro e w' ⟨rfl, rfl⟩) | (go_at_call 109; refine (div64_P P hbig _).mono ?_; rintro e w' ⟨rfl, n, rfl⟩) | (go_at_call 110; refine (below_z _ z m (by omega) HK HZ _).mono ?_; rintro e w' ⟨rfl, rfl⟩))
      go_ret
      exact ⟨rfl, _, rfl⟩
    · rw [if_neg hin]
      have hk : 9223372036854775808 < ((P / 1000 : Nat) : Int) + (if m then 1 else 0) := by
        rw [hm1]; split <;> omega
      have HK := Lib.hid hk
      clear hk hm1 hm0 hin
      go_enter Try.func104, Try.ntmps104
      go_wp2_with (first | (go_at_call 107; refine (size_any _ (by assumption) (by assumption) _).mono ?_; rintro e w' ⟨rfl, rfl⟩) | (go_at_call 106; refine (mul64_P _ _ P hP (by omega) (by omega) _).mono ?_; rintro e w' ⟨rfl, rfl⟩) | (go_at_call 109; refine (div64_P P hbig _).mono ?_; rintro e w' ⟨rfl, n, rfl⟩) | (go_at_call 110; refine (below_over _ m (by omega) (by omega) HK.out _).mono ?_; rintro e w' ⟨rfl, rfl⟩))
      go_ret
      exact ⟨rfl, _, rfl⟩
  · rw [if_neg (by omega)]
    have hlt : 1000 ≤ ((P / 18446744073709551616 : Nat) : Int) := by omega
    clear hm1 hm0
    go_enter Try.func104, Try.ntmps104
    go_wp2_with (first | (go_at_call 107; refine (size_any _ (by assumption) (by assumption) _).mono ?_; rintro e w' ⟨rfl, rfl⟩) | (go_at_call 106; refine (mul64_P _ _ P hP (by omega) (by omega) _).mono ?_; rintro e w' ⟨rfl, rfl⟩) | (go_at_call 108; refine (end_yes _).mono ?_; rintro e w' ⟨rfl, rfl⟩))
    go_ret
    exact ⟨rfl, 0, rfl⟩

/-- number and code; the order of some operations has been drawn -/
def TwoD (v c : Int) (w : World) (e : Ending) (w' : World) : Prop := e = .returned (.tuple #[.int .i64 v, .int .i64 c]) ∧ ∃ n, w' = w.drewN n

theorem mul_any (a b : Int) (ha : -9223372036854775808 ≤ a) (ha' : a ≤ 9223372036854775807) (hb : -9223372036854775808 ≤ b) (hb' : b ≤ 9223372036854775807) (w : World) :
    Calls Try.prog 97 #[.int .i64 a, .int .i64 b] w (TwoD (cutV (mulI a b)) (cutE (mulI a b)) w) := by
  have hsg := abs_mul a b
  obtain ⟨P, hP⟩ : ∃ P, a.natAbs * b.natAbs = P := ⟨_, rfl⟩
  unfold mulI
  by_cases hs : decide (a < 0) = decide (b < 0)
  · rw [hsg.1 hs, hP]
    have hp := prod_plus a b ha ha' hb hb' P hP hs w
    by_cases hin : P / 1000 ≤ 9223372036854775807
    · rw [if_pos hin] at hp
      rw [(cut_in ((P : Int) / 1000) (by omega) (by omega)).1, (cut_in ((P : Int) / 1000) (by omega) (by omega)).2]
      have HP := Lib.hid hp
      clear hp hsg hs hin hP
      go_enter Try.func97, Try.ntmps97
      go_wp2_with (first | (go_at_call 104; refine HP.out.mono ?_; rintro e w' ⟨rfl, n, rfl⟩) | (go_at_call 103; refine (tell_exact _ _).mono ?_; rintro e w' ⟨rfl, rfl⟩))
      go_ret2
      exact ⟨rfl, _, rfl⟩
    · rw [if_neg hin] at hp
      rw [(cut_hi ((P : Int) / 1000) (by omega)).1, (cut_hi ((P : Int) / 1000) (by omega)).2]
      have HP := Lib.hid hp
      clear hp hsg hs hin hP
      go_enter Try.func97, Try.ntmps97
      go_wp2_with (first | (go_at_call 104; refine HP.out.mono ?_; rintro e w' ⟨rfl, n, rfl⟩) | (go_at_call 103; refine (tell_beyond _ _).mono ?_; rintro e w' ⟨rfl, rfl⟩))
      go_ret2
      exact ⟨rfl, _, rfl⟩
  · rw [hsg.2 hs, hP]
    have hp := prod_minus a b ha ha' hb hb' P hP hs w
    have hq : (-(P : Int)) / 1000 = -((P / 1000 : Nat) : Int) - if (0 : Int) < ((P % 1000 : Nat) : Int) then 1 else 0 := by split <;> omega
    by_cases hin : P ≤ 9223372036854775808000
    · rw [if_pos hin, ← hq] at hp
      rw [(cut_in (-(P : Int) / 1000) (by omega) (by omega)).1, (cut_in (-(P : Int) / 1000) (by omega) (by omega)).2]
      have HP := Lib.hid hp
      clear hp hsg hs hin hP hq
      obtain ⟨q, hq⟩ : ∃ q, -(P : Int) / 1000 = q := ⟨_, rfl⟩
      rw [hq] at HP ⊢
      clear hq
      go_enter Try.func97, Try.ntmps97
      go_wp2_with (first | (go_at_call 104; refine HP.out.mono ?_; rintro e w' ⟨rfl, n, rfl⟩) | (go_at_call 103; refine (tell_exact _ _).mono ?_; rintro e w' ⟨rfl, rfl⟩))
      go_ret2
      exact ⟨rfl, _, rfl⟩
    · rw [if_neg hin] at hp
      rw [(cut_lo (-(P : Int) / 1000) (by omega)).1, (cut_lo (-(P : Int) / 1000) (by omega)).2]
      have HP := Lib.hid hp
      clear hp hsg hs hin hP hq
      go_enter Try.func97, Try.ntmps97
      go_wp2_with (first | (go_at_call 104; refine HP.out.mono ?_; rintro e w' ⟨rfl, n, rfl⟩) | (go_at_call 103; refine (tell_beyond _ _).mono ?_; rintro e w' ⟨rfl, rfl⟩))
      go_ret2
      exact ⟨rfl, _, rfl⟩
end Go.Proofs.Ytfnadebkobfemaa.Mil
