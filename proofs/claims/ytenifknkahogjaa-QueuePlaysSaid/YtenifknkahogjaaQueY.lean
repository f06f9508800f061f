/- Layer 20: QueueDepths. -/
import Derived.Test.YtenifknkahogjaaQueX
namespace Go.Proofs.Ytenifknkahogjaa.Que
open Go.Eng Go.RowKit
set_option linter.unusedVariables false
set_option linter.unusedSimpArgs false
def kD (a : Int) : Int := IntKind.wrap .i64 (Int.tmod (IntKind.wrap .u64 a) 31)
def gD (b : Int) : Int := IntKind.wrap .i64 (Int.tmod (IntKind.wrap .u64 b) 40)
def mD (a c : Int) : Int := IntKind.wrap .i64 (Int.tmod (IntKind.wrap .u64 c) (IntKind.wrap .u64 (IntKind.wrap .i64 (kD a + 1))))
def pD (a b c : Int) : P1 := ⟨c, kD a, gD b, 30⟩
noncomputable def eD (a b c : Int) : A1 := endW (nxtC ok1 go1 rd1 F1 mu1 (pD a b c)) ⟨none, 0, [], 0⟩
noncomputable def uE (a b c : Int) : Bool → Option Int
  | true => some ((eD a b c).u.getD 0)
  | false => none
noncomputable def p2 (a b c : Int) (e : Bool) : P2 := ⟨kD a, gD b, mD a c, gD b, uE a b c e⟩
noncomputable def e2 (a b c : Int) (e : Bool) : A2 := endW (nxtC ok2 go2 rd2 F2 mu2 (p2 a b c e)) ⟨(eD a b c).n, (eD a b c).l, 0⟩
def mkB (n : Nat) : Bool := decide (0 ≤ (n : Int)) && (decide ((n : Int) ≤ (n : Int)) && decide ((n : Int) ≤ 1000000))
def a0 (n : Nat) : AA := ⟨List.replicate (n : Int).toNat 0, (n : Int).toNat, 0⟩
noncomputable def preD (a b c : Int) (e : Bool) : List (Bool × Bool) := [((31 : Int) == 0, false), ((40 : Int) == 0, false), (!bif decide ((0 : Int) ≤ 30) then decide ((30 : Int) ≤ 200) else false, false), (invC ok1 (pD a b c) ⟨none, 0, [], 0⟩, true), ((eD a b c).u.isSome, e),
  (!bif decide (0 ≤ gD b) then decide (gD b ≤ 200) else false, false), ((0 : Int) != 0, false), (mkB (eD a b c).n, true), (invC okA (pA (gD b) (uE a b c e) (eD a b c).n (eD a b c).l) (a0 (eD a b c).n), true),
  (bif (0 : Int) != 0 then true else ((eA (pA (gD b) (uE a b c e) (eD a b c).n (eD a b c).l)).j : Int) != kD a, false), (IntKind.wrap .u64 (IntKind.wrap .i64 (kD a + 1)) == 0, false), (invC ok2 (p2 a b c e) ⟨(eD a b c).n, (eD a b c).l, 0⟩, true),
  (bif decide ((99 : Int) < 0) then true else lateU (uE a b c e), false)]
def chD (e : Bool) : List Bool := [false, false, false, true, e, false, false, true, true, false, false, true, false]
noncomputable def restB (a b c : Int) (x : Int) : Bool := (x == 0) == decide (IntKind.wrap .i64 (kD a - mD a c) < gD b)
noncomputable def l2 (a b c : Int) (e : Bool) : List (Int × Int) := List.take (e2 a b c e).n (e2 a b c e).l ++ [((99 : Int), (5 : Int))]
noncomputable def n2 (a b c : Int) (e : Bool) : Nat := (e2 a b c e).n + [((99 : Int), (5 : Int))].length
theorem wayD1 (a b c : Int) (e : Bool) : T.path (chD e ++ [false, true, true, true, true, true]) (execS J3 (byReg dlist) 6 [iv a, iv b, iv c]) = some (preD a b c e ++ [(decide (gD b ≤ ((e2 a b c e).n : Int)), false),
  (true && (decide ((e2 a b c e).n ≤ (e2 a b c e).l.length) && decide (n2 a b c e ≤ 1000000)), true), (restB a b c 0, true), (mkB (n2 a b c e), true), (invC okA (pA (gD b) (some 5) (n2 a b c e) (l2 a b c e)) (a0 (n2 a b c e)), true), ((0 : Int) == 0, true)],
  .s (.bool (bif restB a b c 0 then ((eA (pA (gD b) (some 5) (n2 a b c e) (l2 a b c e))).j : Int) == IntKind.wrap .i64 (IntKind.wrap .i64 (kD a - mD a c) + 1) else false))) := by cases e <;> kernel_rfl
theorem wayD2 (a b c : Int) (e : Bool) : T.path (chD e ++ [true, true, true, true, false]) (execS J3 (byReg dlist) 6 [iv a, iv b, iv c]) = some (preD a b c e ++ [(decide (gD b ≤ ((e2 a b c e).n : Int)), true),
  (restB a b c 6, true), (mkB (e2 a b c e).n, true), (invC okA (pA (gD b) (uE a b c e) (e2 a b c e).n (e2 a b c e).l) (a0 (e2 a b c e).n), true), ((6 : Int) == 0, false)],
  .s (.bool (bif restB a b c 6 then ((eA (pA (gD b) (uE a b c e) (e2 a b c e).n (e2 a b c e).l)).j : Int) == IntKind.wrap .i64 (IntKind.wrap .i64 (kD a - mD a c) + 0) else false))) := by cases e <;> kernel_rfl
theorem allSay_append : ∀ {l r : List (Bool × Bool)}, allSay l → allSay r → allSay (l ++ r)
  | [], r, _, h => h
  | p :: l, r, h1, h2 => ⟨h1.1, allSay_append h1.2 h2⟩
theorem umod (a : Int) {m : Int} (hm : 0 < m) : 0 ≤ Int.tmod (IntKind.wrap .u64 a) m ∧ Int.tmod (IntKind.wrap .u64 a) m < m := by
  rw [wrapu64, Int.tmod_eq_emod_of_nonneg (Int.emod_nonneg _ (by decide))]
  exact modU_range a hm
theorem mkB_is {n : Nat} (h : n ≤ 1000) : mkB n = true := by
  unfold mkB
  rw [decide_eq_true (show 0 ≤ (n : Int) by omega), decide_eq_true (Int.le_refl (n : Int)), decide_eq_true (show (n : Int) ≤ 1000000 by omega)]; rfl
theorem queueDepths_walk (a : Int) (_ : (Lit.int .i64 a).wf = true) (b : Int) (_ : (Lit.int .i64 b).wf = true) (c : Int) (_ : (Lit.int .i64 c).wf = true) (w : World) :
    Calls Try.prog 6 #[.int .i64 a, .int .i64 b, .int .i64 c] w fun e w' => e = .returned (.bool true) ∧ Below w.heap.size w w' := by
  refine law_yes (args := [iv a, iv b, iv c]) (execS_loops (Λ := byReg dlist) J3_ok mixed Try.func6 (by kernel_rfl) (by kernel_rfl) dlps_ok) rfl (.inr ?_) w
  have hk : 0 ≤ kD a ∧ kD a ≤ 30 := by
    have h := umod a (m := 31) (by decide)
    unfold kD
    rw [wrap64_in (by omega) (by omega)]; omega
  have hg : 0 ≤ gD b ∧ gD b ≤ 39 := by
    have h := umod b (m := 40) (by decide)
    unfold gD
    rw [wrap64_in (by omega) (by omega)]; omega
  have k1 : IntKind.wrap .i64 (kD a + 1) = kD a + 1 := wrap64_in (by omega) (by omega)
  have k2 : IntKind.wrap .u64 (kD a + 1) = kD a + 1 := by rw [wrapu64]; omega
  have hm : 0 ≤ mD a c ∧ mD a c ≤ kD a := by
    unfold mD
    rw [k1, k2]
    have h := umod c (m := kD a + 1) (by omega)
    rw [wrap64_in (by omega) (by omega)]; omega
  have o1 : ok1 (pD a b c) ⟨none, 0, [], 0⟩ := ⟨rfl, hk.1, hk.2, rfl, rfl, hk.1, fun j hj => absurd hj (Nat.not_lt_zero j), .inl rfl⟩
  have q1 : ok1 (pD a b c) (eD a b c) ∧ go1 (pD a b c) (eD a b c) = false := endC step1 o1
  obtain ⟨⟨-, -, -, r4, r5, r6, r7, r8⟩, r9⟩ := q1
  have r10 : ¬ (eD a b c).i < kD a := of_decide_eq_false r9
  have r6' : (eD a b c).i ≤ kD a := r6
  have hw1 := wayD1 a b c (eD a b c).u.isSome
  have hw2 := wayD2 a b c (eD a b c).u.isSome
  have hlu : lateU (uE a b c (eD a b c).u.isSome) = false := by
    unfold uE
    rcases r8 with q | q <;> rw [q] <;> rfl
  have o2 : ok2 (p2 a b c (eD a b c).u.isSome) ⟨(eD a b c).n, (eD a b c).l, 0⟩ := ⟨hm.1, hm.2, hk.2, r4, Int.le_refl 0, hm.1, by show ((eD a b c).l.length : Int) = kD a - 0; omega, r7⟩
  have q2 : ok2 (p2 a b c (eD a b c).u.isSome) (e2 a b c (eD a b c).u.isSome) ∧ go2 (p2 a b c (eD a b c).u.isSome) (e2 a b c (eD a b c).u.isSome) = false := endC step2 o2
  obtain ⟨⟨-, -, -, s4, s5, s6, s7, s8⟩, s9⟩ := q2
  have s10 : ¬ (e2 a b c (eD a b c).u.isSome).i < mD a c := of_decide_eq_false s9
  have s6' : (e2 a b c (eD a b c).u.isSome).i ≤ mD a c := s6
  have s7' : ((e2 a b c (eD a b c).u.isSome).l.length : Int) = kD a - (e2 a b c (eD a b c).u.isSome).i := s7
  obtain ⟨b1, -, b3⟩ := all_ok (d := gD b) (u := uE a b c (eD a b c).u.isSome) r4 (by omega)
  have hpre : allSay (preD a b c (eD a b c).u.isSome) := by
    refine ⟨rfl, rfl, rfl, invC_is o1, rfl, ?_, rfl, mkB_is (by omega), b1, ?_, ?_, invC_is o2, ?_, trivial⟩
    · rw [decide_eq_true hg.1, decide_eq_true (show gD b ≤ 200 by omega)]; rfl
    · rw [b3, show ((eD a b c).l.length : Int) = kD a by omega]
      show (kD a != kD a) = false
      simp
    · rw [k1, k2, beq_eq_false_iff_ne]; omega
    · rw [hlu]; rfl
  have w1 : IntKind.wrap .i64 (kD a - mD a c) = kD a - mD a c := wrap64_in (by omega) (by omega)
  by_cases f : gD b ≤ ((e2 a b c (eD a b c).u.isSome).n : Int)
  · obtain ⟨c1, -, c3⟩ := all_ok (d := gD b) (u := uE a b c (eD a b c).u.isSome) s4 (by omega)
    have hr : restB a b c 6 = true := by
      unfold restB
      rw [w1, decide_eq_false (by omega)]; rfl
    refine (T.path_eval hw2 (allSay_append hpre ⟨decide_eq_true f, hr, mkB_is (by omega), c1, rfl, trivial⟩)).trans ?_
    have hv : ((eA (pA (gD b) (uE a b c (eD a b c).u.isSome) (e2 a b c (eD a b c).u.isSome).n (e2 a b c (eD a b c).u.isSome).l)).j : Int) == IntKind.wrap .i64 (IntKind.wrap .i64 (kD a - mD a c) + 0) := by
      rw [c3, w1, wrap64_in (by omega) (by omega), beq_iff_eq]; omega
    rw [hr, hv]; rfl
  · have hl2 : (l2 a b c (eD a b c).u.isSome).length = (e2 a b c (eD a b c).u.isSome).l.length + 1 := by
      unfold l2
      rw [s4, List.take_length, List.length_append]; rfl
    have hn2 : n2 a b c (eD a b c).u.isSome = (l2 a b c (eD a b c).u.isSome).length := by rw [hl2]; unfold n2; rw [s4]; rfl
    obtain ⟨c1, -, c3⟩ := all_ok (d := gD b) (u := some 5) hn2 (by omega)
    have hr : restB a b c 0 = true := by
      unfold restB
      rw [w1, decide_eq_true (by omega)]; rfl
    refine (T.path_eval hw1 (allSay_append hpre ⟨decide_eq_false f, ?_, hr, mkB_is (by omega), c1, rfl, trivial⟩)).trans ?_
    · rw [decide_eq_true (show (e2 a b c (eD a b c).u.isSome).n ≤ (e2 a b c (eD a b c).u.isSome).l.length by omega), decide_eq_true (show n2 a b c (eD a b c).u.isSome ≤ 1000000 by omega)]; rfl
    · have hv : ((eA (pA (gD b) (some 5) (n2 a b c (eD a b c).u.isSome) (l2 a b c (eD a b c).u.isSome))).j : Int) == IntKind.wrap .i64 (IntKind.wrap .i64 (kD a - mD a c) + 1) := by
        rw [c3, w1, wrap64_in (by omega) (by omega), beq_iff_eq]; omega
      rw [hr, hv]; rfl
end Go.Proofs.Ytenifknkahogjaa.Que
