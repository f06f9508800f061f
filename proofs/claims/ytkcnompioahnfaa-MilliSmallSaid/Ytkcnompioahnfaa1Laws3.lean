/- The walks of the last statements of layer 1: small numbers, and products by parts. -/
import Derived.Test.Ytkcnompioahnfaa1Laws2
namespace Go.Proofs.Ytkcnompioahnfaa.Mil
open Go.ChangeShapes Go.WideShapes Go.ChangeAt Go.RowKit
set_option linter.unusedVariables false
set_option linter.unusedSimpArgs false

theorem tmod_range (a m : Int) (hm : 0 < m) : -m < a.tmod m ∧ a.tmod m < m := by
  have h : (a.tmod m).natAbs < m.natAbs := by rw [Int.natAbs_tmod]; exact Nat.mod_lt _ (by omega)
  omega

theorem prod_small (x y B : Int) (hB : 0 ≤ B) (h1 : -B ≤ x) (h2 : x ≤ B) (h3 : -B ≤ y) (h4 : y ≤ B) : -(B * B) ≤ x * y ∧ x * y ≤ B * B := by
  have h : (x * y).natAbs ≤ B.natAbs * B.natAbs := by rw [Int.natAbs_mul]; exact Nat.mul_le_mul (by omega) (by omega)
  have e : ((B.natAbs * B.natAbs : Nat) : Int) = B * B := by rw [Int.natCast_mul, show ((B.natAbs : Nat) : Int) = B by omega]
  omega

set_option maxRecDepth 100000 in
set_option maxHeartbeats 4000000 in
theorem parts_walk (a0 a1 a2 : Int) (w0 : (Lit.int .i64 a0).wf = true) (w1 : (Lit.int .i64 a1).wf = true) (w2 : (Lit.int .i64 a2).wf = true) (w : World) :
    Calls Try.prog 3 #[.int .i64 a0, .int .i64 a1, .int .i64 a2] w fun e w' => e = .returned (.bool true) ∧ Grown w w' := by
  obtain ⟨ha, ha'⟩ := r64 w0
  obtain ⟨hb, hb'⟩ := r64 w1
  obtain ⟨hc, hc'⟩ := r64 w2
  clear w0 w1 w2
  obtain ⟨x1, x2⟩ := tmod_range a0 1000000 (by decide)
  obtain ⟨y1, y2⟩ := tmod_range a1 1000000 (by decide)
  obtain ⟨z1, z2⟩ := tmod_range a2 1000000 (by decide)
  obtain ⟨x, hx⟩ : ∃ n, a0.tmod 1000000 = n := ⟨_, rfl⟩
  obtain ⟨y, hy⟩ : ∃ n, a1.tmod 1000000 = n := ⟨_, rfl⟩
  obtain ⟨z, hz⟩ : ∃ n, a2.tmod 1000000 = n := ⟨_, rfl⟩
  rw [hx] at x1 x2
  rw [hy] at y1 y2
  rw [hz] at z1 z2
  have p1 := prod_small x z 1000000 (by omega) (by omega) (by omega) (by omega) (by omega)
  have p2 := prod_small y z 1000000 (by omega) (by omega) (by omega) (by omega) (by omega)
  have e1 : (x + y) * z = x * z + y * z := Int.add_mul x y z
  obtain ⟨P, hP⟩ : ∃ n, x * z = n := ⟨_, rfl⟩
  obtain ⟨Q, hQ⟩ : ∃ n, y * z = n := ⟨_, rfl⟩
  rw [hP, hQ] at e1
  rw [hP] at p1
  rw [hQ] at p2
  have b1 : -1000000000000 ≤ P ∧ P ≤ 1000000000000 := by omega
  have b2 : -1000000000000 ≤ Q ∧ Q ≤ 1000000000000 := by omega
  obtain ⟨p, hp⟩ : ∃ n, P / 1000 = n := ⟨_, rfl⟩
  obtain ⟨q, hq⟩ : ∃ n, Q / 1000 = n := ⟨_, rfl⟩
  obtain ⟨r, hr⟩ : ∃ n, (P + Q) / 1000 = n := ⟨_, rfl⟩
  have hA := fun w => mul_c x z p 0 ⟨by omega, by omega⟩ ⟨by omega, by omega⟩ (by unfold mulI; rw [hP, hp]; exact cut_in p (by omega) (by omega)) w
  have hB := fun w => mul_c y z q 0 ⟨by omega, by omega⟩ ⟨by omega, by omega⟩ (by unfold mulI; rw [hQ, hq]; exact cut_in q (by omega) (by omega)) w
  have hC := fun w => mul_c (x + y) z r 0 ⟨by omega, by omega⟩ ⟨by omega, by omega⟩ (by unfold mulI; rw [e1, hr]; exact cut_in r (by omega) (by omega)) w
  have HA := Lib.hid hA
  have HB := Lib.hid hB
  have HC := Lib.hid hC
  have c1 : 0 ≤ r - p - q := by omega
  have c2 : r - p - q ≤ 1 := by omega
  have c3 : -1000000001 ≤ p ∧ p ≤ 1000000001 := by omega
  have c4 : -1000000001 ≤ q ∧ q ≤ 1000000001 := by omega
  have c5 : -2000000001 ≤ r ∧ r ≤ 2000000001 := by omega
  obtain ⟨c3a, c3b⟩ := c3
  obtain ⟨c4a, c4b⟩ := c4
  obtain ⟨c5a, c5b⟩ := c5
  clear hA hB hC hP hQ e1 p1 p2 b1 b2 hp hq hr
  have hx' : 0 ≤ a0 → a0 % 1000000 = x := fun h => by rw [← hx, Int.tmod_eq_emod_of_nonneg h]
  have hy' : 0 ≤ a1 → a1 % 1000000 = y := fun h => by rw [← hy, Int.tmod_eq_emod_of_nonneg h]
  have hz' : 0 ≤ a2 → a2 % 1000000 = z := fun h => by rw [← hz, Int.tmod_eq_emod_of_nonneg h]
  have HX := Lib.hid hx'
  have HY := Lib.hid hy'
  have HZ := Lib.hid hz'
  clear hx' hy' hz'
  go_enter Try.func3, Try.ntmps3
  go_wp2_with fail
  refine (HA.out _).mono ?_
  rintro e w' ⟨rfl, n1, rfl⟩
  go_wp2_with fail
  refine (HB.out _).mono ?_
  rintro e w' ⟨rfl, n2, rfl⟩
  go_wp2_with fail
  refine (HC.out _).mono ?_
  rintro e w' ⟨rfl, n3, rfl⟩
  go_wp2_with (go_at_call 10; refine (told_yes _).mono ?_; rintro e w' ⟨rfl, n, rfl⟩)
  go_ret
  exact law_end (by simp)

end Go.Proofs.Ytkcnompioahnfaa.Mil
