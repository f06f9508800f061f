/- The walk of the statement on small numbers. -/
import Derived.Test.Ytkcnompioahnfaa1Laws3
namespace Go.Proofs.Ytkcnompioahnfaa.Mil
open Go.ChangeShapes Go.WideShapes Go.ChangeAt Go.RowKit
set_option linter.unusedVariables false
set_option linter.unusedSimpArgs false

/-- what stands on either side of a quotient -/
theorem quo_sides (x y q r : Int) (hq : x.tdiv y = q) (hr : x.tmod y = r) (hx : -1000000000 < x) (hx' : x < 1000000000) (hy : -1000000000 < y) (hy' : y < 1000000000) (hy0 : y ≠ 0) :
    ∃ u v k Z : Int, upI x y = u ∧ dnI x y = v ∧ k = q * y ∧ x = k + r ∧ (-1000000000 < q ∧ q < 1000000000) ∧ (r = 0 → u = q ∧ v = q) ∧
      (r ≠ 0 → u - v = 1) ∧ (-1000000001 < u ∧ u < 1000000001) ∧ (-1000000001 < v ∧ v < 1000000001) ∧
      (∃ U V : Int, u * y = U ∧ v * y = V ∧ (-2000000000 < U ∧ U < 2000000000) ∧ (-2000000000 < V ∧ V < 2000000000) ∧ (0 < y → x ≤ U ∧ V ≤ x) ∧ (y < 0 → U ≤ x ∧ x ≤ V)) := by
  have hu := up_of x y hy0
  have hv := dn_of x y hy0
  rw [hq, hr] at hu hv
  have hk : x = q * y + r := by
    have := Int.mul_tdiv_add_tmod x y
    rw [hq, hr, Int.mul_comm] at this; omega
  have hra : r.natAbs < y.natAbs := by
    rw [← hr, Int.natAbs_tmod]; exact Nat.mod_lt _ (by omega)
  have hrs : (0 ≤ x → 0 ≤ r) ∧ (x ≤ 0 → r ≤ 0) := by
    rw [← hr]; refine ⟨fun h => Int.tmod_nonneg y h, fun h => ?_⟩
    have := Int.tmod_nonneg (a := -x) y (by omega)
    rw [Int.neg_tmod] at this; omega
  have hqa : q.natAbs ≤ x.natAbs := by rw [← hq, Int.natAbs_tdiv]; exact Nat.div_le_self _ _
  obtain ⟨k, hk0⟩ : ∃ k, k = q * y := ⟨_, rfl⟩
  rw [← hk0] at hk
  by_cases hr0 : r = 0
  · rw [if_neg (fun h => h.1 hr0)] at hu hv
    refine ⟨_, _, k, 0, rfl, rfl, hk0, hk, ⟨by omega, by omega⟩, fun _ => ⟨by omega, by omega⟩, fun h => absurd hr0 h, ⟨by omega, by omega⟩, ⟨by omega, by omega⟩, k, k, ?_, ?_, ⟨by omega, by omega⟩, ⟨by omega, by omega⟩, fun _ => ⟨by omega, by omega⟩, fun _ => ⟨by omega, by omega⟩⟩
    · rw [hu, Int.add_zero, hk0]
    · rw [hv, Int.sub_zero, hk0]
  · by_cases hs : (x < 0) = (y < 0)
    · rw [if_pos ⟨hr0, hs⟩] at hu
      rw [if_neg (fun h => h.2 hs)] at hv
      refine ⟨_, _, k, 0, rfl, rfl, hk0, hk, ⟨by omega, by omega⟩, fun h => absurd h hr0, fun h => by omega, ⟨by omega, by omega⟩, ⟨by omega, by omega⟩, k + y, k, ?_, ?_, ?_, ⟨by omega, by omega⟩, ?_, ?_⟩
      · rw [hu, Int.add_mul, Int.one_mul, hk0]
      · rw [hv, Int.sub_zero, hk0]
      · simp only [eq_iff_iff] at hs; omega
      · simp only [eq_iff_iff] at hs; intro h; omega
      · simp only [eq_iff_iff] at hs; intro h; omega
    · rw [if_neg (fun h => hs h.2)] at hu
      rw [if_pos ⟨hr0, hs⟩] at hv
      refine ⟨_, _, k, 0, rfl, rfl, hk0, hk, ⟨by omega, by omega⟩, fun h => absurd h hr0, fun h => by omega, ⟨by omega, by omega⟩, ⟨by omega, by omega⟩, k, k - y, ?_, ?_, ⟨by omega, by omega⟩, ?_, ?_, ?_⟩
      · rw [hu, Int.add_zero, hk0]
      · rw [hv, Int.sub_mul, Int.one_mul, hk0]
      · simp only [eq_iff_iff] at hs; omega
      · simp only [eq_iff_iff] at hs; intro h; omega
      · simp only [eq_iff_iff] at hs; intro h; omega

set_option maxRecDepth 100000 in
set_option maxHeartbeats 40000000 in
theorem small_walk (a0 a1 : Int) (w0 : (Lit.int .i64 a0).wf = true) (w1 : (Lit.int .i64 a1).wf = true) (w : World) :
    Calls Try.prog 5 #[.int .i64 a0, .int .i64 a1] w fun e w' => e = .returned (.bool true) ∧ Grown w w' := by
  obtain ⟨ha, ha'⟩ := r64 w0
  obtain ⟨hb, hb'⟩ := r64 w1
  clear w0 w1
  obtain ⟨x1, x2⟩ := tmod_range a0 1000000000 (by decide)
  obtain ⟨y1, y2⟩ := tmod_range a1 1000000000 (by decide)
  obtain ⟨x, hx⟩ : ∃ n, a0.tmod 1000000000 = n := ⟨_, rfl⟩
  obtain ⟨y, hy⟩ : ∃ n, a1.tmod 1000000000 = n := ⟨_, rfl⟩
  rw [hx] at x1 x2
  rw [hy] at y1 y2
  have p1 := prod_small x y 1000000000 (by omega) (by omega) (by omega) (by omega) (by omega)
  obtain ⟨P, hP⟩ : ∃ n, x * y = n := ⟨_, rfl⟩
  rw [hP] at p1
  have b1 : -1000000000000000000 ≤ P ∧ P ≤ 1000000000000000000 := by omega
  obtain ⟨p, hp⟩ : ∃ n, P / 1000 = n := ⟨_, rfl⟩
  have hA := fun w => add_c x y (x + y) 0 ⟨by omega, by omega⟩ ⟨by omega, by omega⟩ (cut_in (x + y) (by omega) (by omega)) w
  have hB := fun w => sub_c (x + y) y x 0 ⟨by omega, by omega⟩ ⟨by omega, by omega⟩ (by rw [Int.add_sub_cancel]; exact cut_in x (by omega) (by omega)) w
  have hM := fun w => mul_c x y p 0 ⟨by omega, by omega⟩ ⟨by omega, by omega⟩ (by unfold mulI; rw [hP, hp]; exact cut_in p (by omega) (by omega)) w
  obtain ⟨s, hs⟩ : ∃ n, x + y = n := ⟨_, rfl⟩
  rw [hs] at hA hB
  have HA := Lib.hid hA
  have HB := Lib.hid hB
  have HM := Lib.hid hM
  have c1 : 0 ≤ P - p * 1000 := by omega
  have c2 : P - p * 1000 ≤ 999 := by omega
  have c3 : -10000000000000000 ≤ p ∧ p ≤ 10000000000000000 := by omega
  obtain ⟨c3a, c3b⟩ := c3
  obtain ⟨b1a, b1b⟩ := b1
  clear hA hB hM p1 hp
  have hx' : 0 ≤ a0 → a0 % 1000000000 = x := fun h => by rw [← hx, Int.tmod_eq_emod_of_nonneg h]
  have hy' : 0 ≤ a1 → a1 % 1000000000 = y := fun h => by rw [← hy, Int.tmod_eq_emod_of_nonneg h]
  clear hx' hy'
  have HP := Lib.hid (And.intro hP (And.intro hs (And.intro b1a (And.intro b1b (And.intro c1 (And.intro c2 (And.intro c3a c3b)))))))
  clear hP hs b1a b1b c1 c2 c3a c3b ha ha' hb hb'
  by_cases hy0 : y = 0
  · subst hy0
    obtain ⟨hP, hs, b1a, b1b, c1, c2, c3a, c3b⟩ := HP.out
    rw [Int.mul_zero] at hP
    subst hP
    rw [Int.add_zero] at hs
    subst hs
    obtain rfl : p = 0 := by omega
    clear HP b1a b1b c1 c2 c3a c3b
    go_enter Try.func5, Try.ntmps5
    go_wp2_with fail
    refine (HA.out _).mono ?_
    rintro e w' ⟨rfl, rfl⟩
    go_wp2_with fail
    refine (HB.out _).mono ?_
    rintro e w' ⟨rfl, rfl⟩
    go_wp2_with fail
    refine (HM.out _).mono ?_
    rintro e w' ⟨rfl, n1, rfl⟩
    go_wp2_with (go_at_call 10; refine (told_yes _).mono ?_; rintro e w' ⟨rfl, n, rfl⟩)
    go_ret
    exact law_end (by simp)
  · obtain ⟨q, hq⟩ : ∃ n, x.tdiv y = n := ⟨_, rfl⟩
    obtain ⟨r, hr⟩ : ∃ n, x.tmod y = n := ⟨_, rfl⟩
    obtain ⟨u, v, k, Z, hu, hv, hk, hxk, ⟨q1, q2⟩, hr0, hr1, ⟨u1, u2⟩, ⟨v1, v2⟩, U, V, hU, hV, ⟨U1, U2⟩, ⟨V1, V2⟩, hpos, hneg⟩ := quo_sides x y q r hq hr (by omega) (by omega) (by omega) (by omega) hy0
    have hUp := fun w => up_c x y u 0 ⟨by omega, by omega⟩ ⟨by omega, by omega⟩ (by unfold upV upE; rw [if_neg hy0, if_neg hy0, hu]; exact cut_in u (by omega) (by omega)) w
    have hDn := fun w => dn_c x y v 0 ⟨by omega, by omega⟩ ⟨by omega, by omega⟩ (by unfold dnV dnE; rw [if_neg hy0, if_neg hy0, hv]; exact cut_in v (by omega) (by omega)) w
    have HU := Lib.hid hUp
    have HD := Lib.hid hDn
    have hyb : (y == 0) = false := by rw [beq_eq_false_iff_ne]; exact hy0
    have hxm : 0 ≤ x → x % y = r := fun h => by rw [← hr, Int.tmod_eq_emod_of_nonneg h]
    clear hUp hDn hk hxk hq hu hv q1 q2 Z
    have hrb : (r = 0 ∧ u = v) ∨ ((r == 0) = false ∧ (u == v) = false ∧ u - v = 1) := by
      by_cases h : r = 0
      · exact .inl ⟨h, by have := hr0 h; omega⟩
      · exact .inr ⟨by rw [beq_eq_false_iff_ne]; exact h, by rw [beq_eq_false_iff_ne]; have := hr1 h; omega, hr1 h⟩
    have hys : (0 < y ∧ x ≤ U ∧ V ≤ x) ∨ (y < 0 ∧ U ≤ x ∧ x ≤ V) := by
      rcases Int.lt_trichotomy y 0 with h | h | h
      · exact .inr ⟨h, hneg h⟩
      · exact absurd h hy0
      · exact .inl ⟨h, hpos h⟩
    have HR := Lib.hid (And.intro hr (And.intro u1 (And.intro u2 (And.intro v1 (And.intro v2 (And.intro hU (And.intro hV (And.intro U1 (And.intro U2 (And.intro V1 V2))))))))))
    clear hr0 hr1 hpos hneg hy0 hr u1 u2 v1 v2 hU hV U1 U2 V1 V2
    rcases hrb with ⟨rfl, rfl⟩ | ⟨hrb, huv, hd⟩
    all_goals
      rcases hys with ⟨hy3, hy4, hy5⟩ | ⟨hy3, hy4, hy5⟩
      all_goals
        rcases (show 0 ≤ x ∨ x < 0 by omega) with hxs | hxs
        all_goals
          first | (have hxm' := hxm hxs; clear hxm) | clear hxm
          have HY4 := Lib.hid hy4
          have HY5 := Lib.hid hy5
          try have HXM := Lib.hid hxm'
          try have HD1 := Lib.hid hd
          clear hy4 hy5
          try clear hxm'
          try clear hd
          go_enter Try.func5, Try.ntmps5
          go_wp2_with fail
          refine (HA.out _).mono ?_
          rintro e w' ⟨rfl, rfl⟩
          go_wp2_with fail
          refine (HB.out _).mono ?_
          rintro e w' ⟨rfl, rfl⟩
          go_wp2_with fail
          refine (HM.out _).mono ?_
          rintro e w' ⟨rfl, n1, rfl⟩
          obtain ⟨hP, hs, b1a, b1b, c1, c2, c3a, c3b⟩ := HP.out
          go_wp2_with fail
          clear hP hs b1a b1b c1 c2 c3a c3b
          refine (HU.out _).mono ?_
          rintro e w' ⟨rfl, rfl⟩
          go_wp2_with fail
          refine (HD.out _).mono ?_
          rintro e w' ⟨rfl, rfl⟩
          go_wp2_with fail
          refine (told_yes _).mono ?_
          rintro e w' ⟨rfl, n, rfl⟩
          obtain ⟨hr, u1, u2, v1, v2, hU, hV, U1, U2, V1, V2⟩ := HR.out
          have hy4 := HY4.out
          have hy5 := HY5.out
          try have hxm' := HXM.out
          try have hd := HD1.out
          try (have hUV : _ = _ := hU.symm.trans hV; subst hUV)
          clear HR HP HA HB HM HU HD HY4 HY5
          go_wp2_with fail
          all_goals (go_ret; exact law_end (by simp))
end Go.Proofs.Ytkcnompioahnfaa.Mil
