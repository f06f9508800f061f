/- The walks of the last statements of layer 1: small numbers, and products by parts. -/
import Derived.Test.Ytkcnompioahnfaa1Laws2
namespace Go.Proofs.Ytkcnompioahnfaa.Mil
open Go.ChangeShapes Go.WideShapes Go.ChangeAt Go.RowKit
set_option linter.unusedVariables false
set_option linter.unusedSimpArgs false

theorem tmod_range (a m : Int) (hm : 0 < m) : -m < a.tmod m ∧ a.tmod m < m := by
  have h : (a.tmod m).natAbs < m.natAbs := by rw [Int.natAbs_tmod]; exact Nat.mod_lt _ (by omega)
  omega

theorem prod_small (x y B : Int) (hB : 0 ≤ B) (h1 : -B ≤ x) (h2 : x ≤ B) (h3 : -B ≤ y) (h4 : y ≤ B) : -(B * B) ≤ x * y ∧ x * y ≤ B * B := by
  have h : (x * y).natAbs ≤ B.natAbs * B.natAbs := by rw [Int.natAbs_mul]; exact Nat.mul_le_mul (by omega) (by omega)
  have e : ((B.natAbs * B.natAbs : Nat) : Int) = B * B := by rw [Int.natCast_mul, show ((B.natAbs : Nat) : Int) = B by omega]
  omega

set_option maxRecDepth 100000 in
set_option maxHeartbeats 4000000 in
theorem parts_walk (a0 a1 a2 : Int) (w0 : (Lit.int .i64 a0).wf = true) (w1 : (Lit.int .i64 a1).wf = true) (w2 : (Lit.int .i64 a2).wf = true) (w : World) :
    Calls Try.prog 3 #[.int .i64 a0, .int .i64 a1, .int .i64 a2] w fun e w' => e = .returned (.bool true) ∧ Grown w w' := by
  obtain ⟨ha, ha'⟩ := r64 w0
  obtain ⟨hb, hb'⟩ := r64 w1
  obtain ⟨hc, hc'⟩ := r64 w2
  clear w0 w1 w2
  obtain ⟨x1, x2⟩ := tmod_range a0 1000000 (by decide)
  obtain ⟨y1, y2⟩ := tmod_range a1 1000000 (by decide)
  obtain ⟨z1, z2⟩ := tmod_range a2 1000000 (by decide)
  obtain ⟨x, hx⟩ : ∃ n, a0.tmod 1000000 = n := ⟨_, rfl⟩
  obtain ⟨y, hy⟩ : ∃ n, a1.tmod 1000000 = n := ⟨_, rfl⟩
  obtain ⟨z, hz⟩ : ∃ n, a2.tmod 1000000 = n := ⟨_, rfl⟩
  rw [hx] at x1 x2
  rw [hy] at y1 y2
  rw [hz] at z1 z2
  have p1 := prod_small x z 1000000 (by omega) (by omega) (by omega) (by omega) (by omega)
  have p2 := prod_small y z 1000000 (by omega) (by omega) (by omega) (by omega) (by omega)
  have e1 : (x + y) * z = x * z + y * z := Int.add_mul x y z
  obtain ⟨P, hP⟩ : ∃ n, x * z = n := ⟨_, rfl⟩
  obtain ⟨Q, hQ⟩ : ∃ n, y * z = n := ⟨_, rfl⟩
  rw [hP, hQ] at e1
  rw [hP] at p1
  rw [hQ] at p2
  have b1 : -1000000000000 ≤ P ∧ P ≤ 1000000000000 := by omega
  have b2 : -1000000000000 ≤ Q ∧ Q ≤ 1000000000000 := by omega
  obtain ⟨p, hp⟩ : ∃ n, P / 1000 = n := ⟨_, rfl⟩
  obtain ⟨q, hq⟩ : ∃ n, Q / 1000 = n := ⟨_, rfl⟩
  obtain ⟨r, hr⟩ : ∃ n, (P + Q) / 1000 = n := ⟨_, rfl⟩
  have hA := fun w => mul_c x z p 0 ⟨by omega, by omega⟩ ⟨by omega, by omega⟩ (by unfold mulI; rw [hP, hp]; exact cut_in p (by omega) (by omega)) w
  have hB := fun w => mul_c y z q 0 ⟨by omega, by omega⟩ ⟨by omega, by omega⟩ (by unfold mulI; rw [hQ, hq]; exact cut_in q (by omega) (by omega)) w
  have hC := fun w => mul_c (x + y) z r 0 ⟨by omega, by omega⟩ ⟨by omega, by omega⟩ (by unfold mulI; rw [e1, hr]; exact cut_in r (by omega) (by omega)) w
  have HA := Lib.hid hA
  have HB := Lib.hid hB
  have HC := Lib.hid hC
  have c1 : 0 ≤ r - p - q := by omega
  have c2 : r - p - q ≤ 1 := by omega
  have c3 : -1000000001 ≤ p ∧ p ≤ 1000000001 := by omega
  have c4 : -1000000001 ≤ q ∧ q ≤ 1000000001 := by omega
  have c5 : -2000000001 ≤ r ∧ r ≤ 2000000001 := by omega
  obtain ⟨c3a, c3b⟩ := c3
  obtain ⟨c4a, c4b⟩ := c4
  obtain ⟨c5a, c5b⟩ := c5
  clear hA hB hC hP hQ e1 p1 p2 b1 b2 hp hq hr
  have hx' : 0 ≤ a0 → a0 % 1000000 = x := fun h => by rw [← hx, Int.tmod_eq_emod_of_nonneg h]
  have hy' : 0 ≤ a1 → a1 % 1000000 = y := fun h => by rw [← hy, Int.tmod_eq_emod_of_nonneg h]
  have hz' : 0 ≤ a2 → a2 % 1000000 = z := fun h => by rw [← hz, Int.tmod_eq_emod_of_nonneg h]
  have HX := Lib.hid hx'
  have HY := Lib.hid hy'
  have HZ := Lib.hid hz'
  clear hx' hy' hz'
  go_enter Try.func3, Try.ntmps3
  go_wp2_with fail
  refine (HA.out _).mono ?_
  rintro e w' ⟨rfl, n1, rfl⟩
  go_wp2_with fail
  refine (HB.out _).mono ?_
  rintro e w' ⟨rfl, n2, rfl⟩
  go_wp2_with fail
  refine (HC.out _).mono ?_
  rintro e w' ⟨rfl, n3, rfl⟩
  go_wp2_with (go_at_call 10; refine (told_yes _).mono ?_; rintro e w' ⟨rfl, n, rfl⟩)
  go_ret
  exact law_end (by simp)

/-- what stands on either side of a quotient -/
theorem quo_sides (x y q r : Int) (hq : x.tdiv y = q) (hr : x.tmod y = r) (hx : -1000000000 < x) (hx' : x < 1000000000) (hy : -1000000000 < y) (hy' : y < 1000000000) (hy0 : y ≠ 0) :
    ∃ u v k Z : Int, upI x y = u ∧ dnI x y = v ∧ k = q * y ∧ x = k + r ∧ (-1000000000 < q ∧ q < 1000000000) ∧ (r = 0 → u = q ∧ v = q) ∧
      (r ≠ 0 → u - v = 1) ∧ (-1000000001 < u ∧ u < 1000000001) ∧ (-1000000001 < v ∧ v < 1000000001) ∧
      (∃ U V : Int, u * y = U ∧ v * y = V ∧ (-2000000000 < U ∧ U < 2000000000) ∧ (-2000000000 < V ∧ V < 2000000000) ∧ (0 < y → x ≤ U ∧ V ≤ x) ∧ (y < 0 → U ≤ x ∧ x ≤ V)) := by
  have hu := up_of x y hy0
  have hv := dn_of x y hy0
  rw [hq, hr] at hu hv
  have hk : x = q * y + r := by
    have := Int.mul_tdiv_add_tmod x y
    rw [hq, hr, Int.mul_comm] at this; omega
  have hra : r.natAbs < y.natAbs := by
    rw [← hr, Int.natAbs_tmod]; exact Nat.mod_lt _ (by omega)
  have hrs : (0 ≤ x → 0 ≤ r) ∧ (x ≤ 0 → r ≤ 0) := by
    rw [← hr]; refine ⟨fun h => Int.tmod_nonneg y h, fun h => ?_⟩
    have := Int.tmod_nonneg (a := -x) y (by omega)
    rw [Int.neg_tmod] at this; omega
  have hqa : q.natAbs ≤ x.natAbs := by rw [← hq, Int.natAbs_tdiv]; exact Nat.div_le_self _ _
  obtain ⟨k, hk0⟩ : ∃ k, k = q * y := ⟨_, rfl⟩
  rw [← hk0] at hk
  by_cases hr0 : r = 0
  · rw [if_neg (fun h => h.1 hr0)] at hu hv
    refine ⟨_, _, k, 0, rfl, rfl, hk0, hk, ⟨by omega, by omega⟩, fun _ => ⟨by omega, by omega⟩, fun h => absurd hr0 h, ⟨by omega, by omega⟩, ⟨by omega, by omega⟩, k, k, ?_, ?_, ⟨by omega, by omega⟩, ⟨by omega, by omega⟩, fun _ => ⟨by omega, by omega⟩, fun _ => ⟨by omega, by omega⟩⟩
    · rw [hu, Int.add_zero, hk0]
    · rw [hv, Int.sub_zero, hk0]
  · by_cases hs : (x < 0) = (y < 0)
    · rw [if_pos ⟨hr0, hs⟩] at hu
      rw [if_neg (fun h => h.2 hs)] at hv
      refine ⟨_, _, k, 0, rfl, rfl, hk0, hk, ⟨by omega, by omega⟩, fun h => absurd h hr0, fun h => by omega, ⟨by omega, by omega⟩, ⟨by omega, by omega⟩, k + y, k, ?_, ?_, ?_, ⟨by omega, by omega⟩, ?_, ?_⟩
      · rw [hu, Int.add_mul, Int.one_mul, hk0]
      · rw [hv, Int.sub_zero, hk0]
      · simp only [eq_iff_iff] at hs; omega
      · simp only [eq_iff_iff] at hs; intro h; omega
      · simp only [eq_iff_iff] at hs; intro h; omega
    · rw [if_neg (fun h => hs h.2)] at hu
      rw [if_pos ⟨hr0, hs⟩] at hv
      refine ⟨_, _, k, 0, rfl, rfl, hk0, hk, ⟨by omega, by omega⟩, fun h => absurd h hr0, fun h => by omega, ⟨by omega, by omega⟩, ⟨by omega, by omega⟩, k, k - y, ?_, ?_, ⟨by omega, by omega⟩, ?_, ?_, ?_⟩
      · rw [hu, Int.add_zero, hk0]
      · rw [hv, Int.sub_mul, Int.one_mul, hk0]
      · simp only [eq_iff_iff] at hs; omega
      · simp only [eq_iff_iff] at hs; intro h; omega
      · simp only [eq_iff_iff] at hs; intro h; omega

set_option maxRecDepth 100000 in
set_option maxHeartbeats 4000000 in
theorem small_walk (a0 a1 : Int) (w0 : (Lit.int .i64 a0).wf = true) (w1 : (Lit.int .i64 a1).wf = true) (w : World) :
    Calls Try.prog 5 #[.int .i64 a0, .int .i64 a1] w fun e w' => e = .returned (.bool true) ∧ Grown w w' := by
  obtain ⟨ha, ha'⟩ := r64 w0
  obtain ⟨hb, hb'⟩ := r64 w1
  clear w0 w1
  obtain ⟨x1, x2⟩ := tmod_range a0 1000000000 (by decide)
  obtain ⟨y1, y2⟩ := tmod_range a1 1000000000 (by decide)
  obtain ⟨x, hx⟩ : ∃ n, a0.tmod 1000000000 = n := ⟨_, rfl⟩
  obtain ⟨y, hy⟩ : ∃ n, a1.tmod 1000000000 = n := ⟨_, rfl⟩
  rw [hx] at x1 x2
  rw [hy] at y1 y2
  have p1 := prod_small x y 1000000000 (by omega) (by omega) (by omega) (by omega) (by omega)
  obtain ⟨P, hP⟩ : ∃ n, x * y = n := ⟨_, rfl⟩
  rw [hP] at p1
  have b1 : -1000000000000000000 ≤ P ∧ P ≤ 1000000000000000000 := by omega
  obtain ⟨p, hp⟩ : ∃ n, P / 1000 = n := ⟨_, rfl⟩
  have hA := fun w => add_c x y (x + y) 0 ⟨by omega, by omega⟩ ⟨by omega, by omega⟩ (cut_in (x + y) (by omega) (by omega)) w
  have hB := fun w => sub_c (x + y) y x 0 ⟨by omega, by omega⟩ ⟨by omega, by omega⟩ (by rw [Int.add_sub_cancel]; exact cut_in x (by omega) (by omega)) w
  have hM := fun w => mul_c x y p 0 ⟨by omega, by omega⟩ ⟨by omega, by omega⟩ (by unfold mulI; rw [hP, hp]; exact cut_in p (by omega) (by omega)) w
  obtain ⟨s, hs⟩ : ∃ n, x + y = n := ⟨_, rfl⟩
  rw [hs] at hA hB
  have HA := Lib.hid hA
  have HB := Lib.hid hB
  have HM := Lib.hid hM
  have c1 : 0 ≤ P - p * 1000 := by omega
  have c2 : P - p * 1000 ≤ 999 := by omega
  have c3 : -10000000000000000 ≤ p ∧ p ≤ 10000000000000000 := by omega
  obtain ⟨c3a, c3b⟩ := c3
  obtain ⟨b1a, b1b⟩ := b1
  clear hA hB hM p1 hp
  have hx' : 0 ≤ a0 → a0 % 1000000000 = x := fun h => by rw [← hx, Int.tmod_eq_emod_of_nonneg h]
  have hy' : 0 ≤ a1 → a1 % 1000000000 = y := fun h => by rw [← hy, Int.tmod_eq_emod_of_nonneg h]
  have HX := Lib.hid hx'
  have HY := Lib.hid hy'
  clear hx' hy'
  by_cases hy0 : y = 0
  · subst hy0
    go_enter Try.func5, Try.ntmps5
    go_wp2_with fail
    refine (HA.out _).mono ?_
    rintro e w' ⟨rfl, rfl⟩
    go_wp2_with fail
    refine (HB.out _).mono ?_
    rintro e w' ⟨rfl, rfl⟩
    go_wp2_with fail
    refine (HM.out _).mono ?_
    rintro e w' ⟨rfl, n1, rfl⟩
    go_wp2_with (go_at_call 10; refine (told_yes _).mono ?_; rintro e w' ⟨rfl, n, rfl⟩)
    go_ret
    exact law_end (by simp)
  · obtain ⟨q, hq⟩ : ∃ n, x.tdiv y = n := ⟨_, rfl⟩
    obtain ⟨r, hr⟩ : ∃ n, x.tmod y = n := ⟨_, rfl⟩
    obtain ⟨u, v, k, Z, hu, hv, hk, hxk, ⟨q1, q2⟩, hr0, hr1, ⟨u1, u2⟩, ⟨v1, v2⟩, U, V, hU, hV, ⟨U1, U2⟩, ⟨V1, V2⟩, hpos, hneg⟩ := quo_sides x y q r hq hr (by omega) (by omega) (by omega) (by omega) hy0
    have hUp := fun w => up_c x y u 0 ⟨by omega, by omega⟩ ⟨by omega, by omega⟩ (by unfold upV upE; rw [if_neg hy0, if_neg hy0, hu]; exact cut_in u (by omega) (by omega)) w
    have hDn := fun w => dn_c x y v 0 ⟨by omega, by omega⟩ ⟨by omega, by omega⟩ (by unfold dnV dnE; rw [if_neg hy0, if_neg hy0, hv]; exact cut_in v (by omega) (by omega)) w
    have HU := Lib.hid hUp
    have HD := Lib.hid hDn
    have hyb : (y == 0) = false := by rw [beq_eq_false_iff_ne]; exact hy0
    have hxm : 0 ≤ x → x % y = r := fun h => by rw [← hr, Int.tmod_eq_emod_of_nonneg h]
    clear hUp hDn hk hxk hq hu hv q1 q2 Z
    have hrb : (r = 0 ∧ u = v) ∨ ((r == 0) = false ∧ (u == v) = false ∧ u - v = 1) := by
      by_cases h : r = 0
      · exact .inl ⟨h, by have := hr0 h; omega⟩
      · exact .inr ⟨by rw [beq_eq_false_iff_ne]; exact h, by rw [beq_eq_false_iff_ne]; have := hr1 h; omega, hr1 h⟩
    have hys : (0 < y ∧ x ≤ U ∧ V ≤ x) ∨ (y < 0 ∧ U ≤ x ∧ x ≤ V) := by
      rcases Int.lt_trichotomy y 0 with h | h | h
      · exact .inr ⟨h, hneg h⟩
      · exact absurd h hy0
      · exact .inl ⟨h, hpos h⟩
    clear hr0 hr1 hpos hneg hy0
    rcases hrb with ⟨rfl, rfl⟩ | ⟨hrb, huv, hd⟩
    all_goals
      rcases hys with ⟨hy3, hy4, hy5⟩ | ⟨hy3, hy4, hy5⟩
      all_goals
        rcases (show 0 ≤ x ∨ x < 0 by omega) with hxs | hxs
        all_goals
          first | (have hxm' := hxm hxs; clear hxm) | clear hxm
          go_enter Try.func5, Try.ntmps5
          go_wp2_with fail
          refine (HA.out _).mono ?_
          rintro e w' ⟨rfl, rfl⟩
          go_wp2_with fail
          refine (HB.out _).mono ?_
          rintro e w' ⟨rfl, rfl⟩
          go_wp2_with fail
          refine (HM.out _).mono ?_
          rintro e w' ⟨rfl, n1, rfl⟩
          go_wp2_with fail
          refine (HU.out _).mono ?_
          rintro e w' ⟨rfl, rfl⟩
          go_wp2_with fail
          refine (HD.out _).mono ?_
          rintro e w' ⟨rfl, rfl⟩
          go_wp2_with (go_at_call 10; refine (told_yes _).mono ?_; rintro e w' ⟨rfl, n, rfl⟩)
          go_ret
          exact law_end (by simp)
end Go.Proofs.Ytkcnompioahnfaa.Mil
