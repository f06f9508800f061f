/- Layer 20: QueueLate. -/
import Derived.Test.YtenifknkahogjaaQueAe
import Derived.Test.YtenifknkahogjaaLaw3
namespace Go.Proofs.Ytenifknkahogjaa.Que
open Go.Eng Go.RowKit
set_option linter.unusedVariables false
set_option linter.unusedSimpArgs false
def nnL (b : Int) : Int := IntKind.wrap .i64 (Int.tmod (IntKind.wrap .u64 b) 200)
def aaL (c : Int) : Int := IntKind.wrap .i64 (Int.tmod (IntKind.wrap .u64 c) 41)
def p3L (l : List Int) (b c : Int) : P3 := ⟨l, l.length, b, c, 30⟩
noncomputable def e3L (l : List Int) (b c : Int) : A3 := endW (nxtC ok3 go3 rd3 F3 mu3 (p3L l b c)) ⟨none, 0, [], [], 0, 0, 0⟩
noncomputable def uL (l : List Int) (b c : Int) : Bool → Option Int
  | true => some ((e3L l b c).u.getD 0)
  | false => none
noncomputable def plL (l : List Int) (b c : Int) (e : Bool) : PL := ⟨30, uL l b c e, nnL b, aaL c⟩
noncomputable def eLt (l : List Int) (b c : Int) (e : Bool) : AL := eL (plL l b c e) (e3L l b c).n (e3L l b c).l
noncomputable def p4L (l : List Int) (b c : Int) (e : Bool) : P4 := ⟨30, uL l b c e, (eLt l b c e).n, (eLt l b c e).l, (e3L l b c).W, (e3L l b c).j, (eLt l b c e).W, (eLt l b c e).j, nnL b, aaL c⟩
noncomputable def e4L (l : List Int) (b c : Int) (e : Bool) : A4 := endW (nxtC ok4 go4 rd4 F4 mu4 (p4L l b c e)) ⟨0⟩
noncomputable def paL (l : List Int) (b c : Int) (e : Bool) : PA := pA 30 (uL l b c e) (eLt l b c e).n (eLt l b c e).l
noncomputable def p5L (l : List Int) (b c : Int) (e : Bool) : P5 := ⟨30, uL l b c e, (eLt l b c e).n, (eLt l b c e).l, (e3L l b c).W, (e3L l b c).j, (eLt l b c e).W, (eLt l b c e).j, (e4L l b c e).k⟩
noncomputable def preL (l : List Int) (b c : Int) (e : Bool) : List (Bool × Bool) := [(!bif decide ((0 : Int) ≤ 30) then decide ((30 : Int) ≤ 200) else false, false), (invC ok3 (p3L l b c) ⟨none, 0, [], [], 0, 0, 0⟩, true), ((e3L l b c).u.isSome, e), ((200 : Int) == 0, false), ((41 : Int) == 0, false),
  (invC okL (plL l b c e) ⟨(e3L l b c).n, (e3L l b c).l, [], 0⟩, true), (invC ok4 (p4L l b c e) ⟨0⟩, true), (((eLt l b c e).j : Int) != (e4L l b c e).k, false), (mkB (eLt l b c e).n, true), (invC okA (paL l b c e) (a0 (eLt l b c e).n), true),
  (bif ((eLt l b c e).j : Int) != (e4L l b c e).k then true else ((eA (paL l b c e)).j : Int) != IntKind.wrap .i64 (((e3L l b c).j : Int) - (e4L l b c e).k), false), (invC ok5 (p5L l b c e) ⟨0⟩, true)]
def chL (e : Bool) : List Bool := [false, true, e, false, false, true, true, false, true, true, false, true]
theorem wayE1 (l : List Int) (b c : Int) (e : Bool) : T.path (chL e ++ [true]) (execS J4 (byReg ellist) 3 [.orow 3 [.int .i64] l, iv b, iv c]) = some (preL l b c e ++ [(((eLt l b c e).n : Int) == 0, true)],
  .s (.bool (bif false == decide ((e4L l b c e).k < ((e3L l b c).j : Int)) then true else false))) := by cases e <;> kernel_rfl
theorem wayE2 (l : List Int) (b c : Int) (e : Bool) : T.path (chL e ++ [false, true, true, true]) (execS J4 (byReg ellist) 3 [.orow 3 [.int .i64] l, iv b, iv c]) = some (preL l b c e ++ [(((eLt l b c e).n : Int) == 0, false),
  (decide ((0 : Int) ≤ 0) && (decide ((0 : Int) < ((eLt l b c e).n : Int)) && decide (0 + Int.toNat 0 < (eLt l b c e).l.length)), true), (decide (0 + Int.toNat 0 < (eLt l b c e).l.length), true),
  (decide ((0 : Int) ≤ 1) && (decide ((1 : Int) ≤ ((eLt l b c e).n : Int)) && (decide (((eLt l b c e).n : Int) ≤ ((eLt l b c e).n : Int)) && decide ((eLt l b c e).n ≤ (eLt l b c e).l.length))), true)],
  .s (.bool (bif true == decide ((e4L l b c e).k < ((e3L l b c).j : Int)) then (g2w (eLt l b c e).l 0).1 == (e4L l b c e).k else false))) := by cases e <;> kernel_rfl
theorem wB_is {t nn aa : Int} (h1 : 0 ≤ t ∧ t ≤ 150) (h2 : 0 ≤ nn ∧ nn ≤ 200) (h3 : 0 ≤ aa ∧ aa ≤ 41) : wB t nn aa = decide (aa ≤ nn - t) := by
  unfold wB
  by_cases q : t ≤ nn
  · rw [decide_eq_true q, if_neg (by omega), show IntKind.wrap .u64 nn = nn by rw [wrapu64]; omega, show IntKind.wrap .u64 t = t by rw [wrapu64]; omega, show IntKind.wrap .u64 (nn - t) = nn - t by rw [wrapu64]; omega, show IntKind.wrap .u64 aa = aa by rw [wrapu64]; omega]; rfl
  · rw [decide_eq_false q, decide_eq_false (show ¬ aa ≤ nn - t by omega)]; rfl
theorem queueLate_walk (l : List Int) (_ : l.length ≤ maxLen) (_ : ∀ x ∈ l, (Lit.int .i64 x).wf = true) (x : Value) (b : Int) (_ : (Lit.int .i64 b).wf = true) (c : Int) (_ : (Lit.int .i64 c).wf = true) (w : World) (hx : holdsP 0 w (.orow 3 [.int .i64] l) x) :
    Calls Try.prog 3 #[x, .int .i64 b, .int .i64 c] w fun e w' => e = .returned (.bool true) ∧ Below w.heap.size w w' := by
  refine Law.law_rows (args := [.orow 3 [.int .i64] l, iv b, iv c]) (xs := [x, .int .i64 b, .int .i64 c]) (execS_loops (Λ := byReg ellist) J4_ok mixed Try.func3 (by kernel_rfl) (by kernel_rfl) ellps_ok) rfl (.inr ?_) w ⟨hx, rfl, rfl, trivial⟩
  have hn : 0 ≤ nnL b ∧ nnL b ≤ 200 := by
    have h := umod6 b (m := 200) (by decide)
    unfold nnL
    rw [wrap64_in (by omega) (by omega)]; omega
  have ha : 0 ≤ aaL c ∧ aaL c ≤ 41 := by
    have h := umod6 c (m := 41) (by decide)
    unfold aaL
    rw [wrap64_in (by omega) (by omega)]; omega
  have o3 : ok3 (p3L l b c) ⟨none, 0, [], [], 0, 0, 0⟩ := ⟨rfl, rfl, rfl, rfl, rfl, rfl, by show (0 : Int) ≤ 30; decide, Int.le_refl 0, by show (0 : Int) ≤ 5 * 0; decide, (fun x hx => by cases hx), fun j hj => absurd hj (Nat.not_lt_zero j), .inl rfl⟩
  have q3 : ok3 (p3L l b c) (e3L l b c) ∧ _ := endC step3 o3
  obtain ⟨⟨-, -, r3, r4, r5, r6, r7, r8, r9, r10, r11, r12⟩, -⟩ := q3
  have hw1 := wayE1 l b c (e3L l b c).u.isSome
  have hw2 := wayE2 l b c (e3L l b c).u.isSome
  obtain ⟨i2, k0, s1, s2, s3, s4, s5, s6, s7⟩ := lt_ok (p := plL l b c (e3L l b c).u.isSome) (n := (e3L l b c).n) (l := (e3L l b c).l) r3 (by omega)
  have s2' : (eLt l b c (e3L l b c).u.isSome).l = (e3L l b c).l.drop k0 := s2
  have s3' : (eLt l b c (e3L l b c).u.isSome).W = ((e3L l b c).l.take k0).map (·.1) := s3
  have s4' : (eLt l b c (e3L l b c).u.isSome).n = (e3L l b c).l.length - k0 := s4
  have s5' : (eLt l b c (e3L l b c).u.isSome).j = k0 := s5
  have hat : ∀ j : Nat, (hj : j < (e3L l b c).l.length) → (e3L l b c).l[j] = ((j : Int), gI (e3L l b c).W j) := fun j hj => by
    have := r11 j (by omega)
    rw [List.getElem?_eq_getElem hj] at this
    exact Option.some.inj this
  have hlate : ∀ j : Nat, (hj : j < (e3L l b c).l.length) → late (plL l b c (e3L l b c).u.isSome) (e3L l b c).l[j] = decide (aaL c ≤ nnL b - gI (e3L l b c).W j) := fun j hj => by
    rw [hat j hj]
    exact wB_is (gI_in r10 j) hn ha
  have o4 : ok4 (p4L l b c (e3L l b c).u.isSome) ⟨0⟩ := ⟨r5, by show (e3L l b c).W.length ≤ 30; omega, hn.1, hn.2, ha.1, ha.2, r10, Int.le_refl 0, by show (0 : Int) ≤ ((e3L l b c).W.length : Int); omega, fun j hj => by dsimp only at hj; omega⟩
  have q4 : ok4 (p4L l b c (e3L l b c).u.isSome) (e4L l b c (e3L l b c).u.isSome) ∧ go4 (p4L l b c (e3L l b c).u.isSome) (e4L l b c (e3L l b c).u.isSome) = false := endC step4 o4
  obtain ⟨⟨-, -, -, -, -, -, -, t8, t9, t10⟩, t11⟩ := q4
  have t9' : (e4L l b c (e3L l b c).u.isSome).k ≤ ((e3L l b c).W.length : Int) := t9
  have t10' : ∀ j : Nat, (j : Int) < (e4L l b c (e3L l b c).u.isSome).k → aaL c ≤ nnL b - gI (e3L l b c).W j := t10
  have t11' : (bif decide ((e4L l b c (e3L l b c).u.isSome).k < ((e3L l b c).j : Int)) then decide (aaL c ≤ IntKind.wrap .i64 (nnL b - gI (e3L l b c).W (e4L l b c (e3L l b c).u.isSome).k)) else false) = false := t11
  have hk : (e4L l b c (e3L l b c).u.isSome).k = k0 := by
    rcases Int.lt_trichotomy (e4L l b c (e3L l b c).u.isSome).k (k0 : Int) with h | h | h
    · exfalso
      have hj : (e4L l b c (e3L l b c).u.isSome).k.toNat < k0 := by omega
      have h1 := s6 (e4L l b c (e3L l b c).u.isSome).k.toNat hj (by omega)
      rw [hlate _ (by omega), show (((e4L l b c (e3L l b c).u.isSome).k.toNat : Nat) : Int) = (e4L l b c (e3L l b c).u.isSome).k by omega] at h1
      have hv := gI_in r10 (e4L l b c (e3L l b c).u.isSome).k
      rw [decide_eq_true (show (e4L l b c (e3L l b c).u.isSome).k < ((e3L l b c).j : Int) by omega), wrap64_in (n := nnL b - _) (by omega) (by omega)] at t11'
      have t12 : decide (aaL c ≤ nnL b - gI (e3L l b c).W (e4L l b c (e3L l b c).u.isSome).k) = false := t11'
      rw [t12] at h1; cases h1
    · exact h
    · exfalso
      have hl : k0 < (e3L l b c).l.length := by omega
      have h1 := s7 hl
      rw [hlate _ hl] at h1
      have h2 := t10' k0 h
      rw [decide_eq_true h2] at h1; cases h1
  have hdl : (eLt l b c (e3L l b c).u.isSome).n = (eLt l b c (e3L l b c).u.isSome).l.length := by rw [s2', s4', List.length_drop]
  obtain ⟨b1, -, b3⟩ := all_ok (d := 30) (u := uL l b c (e3L l b c).u.isSome) hdl (by rw [s2', List.length_drop]; omega)
  have hX : (eLt l b c (e3L l b c).u.isSome).W.length = k0 := by rw [s3', List.length_map, List.length_take]; omega
  have o5 : ok5 (p5L l b c (e3L l b c).u.isSome) ⟨0⟩ := by
    refine ⟨by show (eLt l b c (e3L l b c).u.isSome).j = (eLt l b c (e3L l b c).u.isSome).W.length; rw [hX, s5'], by show (eLt l b c (e3L l b c).u.isSome).W.length ≤ 1000; omega, by show (e4L l b c (e3L l b c).u.isSome).k = ((eLt l b c (e3L l b c).u.isSome).W.length : Int); rw [hX, hk], ?_, Int.le_refl 0, by show (0 : Int) ≤ (e4L l b c (e3L l b c).u.isSome).k; omega⟩
    show ∀ j : Nat, j < (eLt l b c (e3L l b c).u.isSome).W.length → (eLt l b c (e3L l b c).u.isSome).W[j]? = some (j : Int)
    intro j hj
    rw [hX] at hj
    rw [s3', List.getElem?_map, List.getElem?_take, if_pos hj, List.getElem?_eq_getElem (by omega), hat j (by omega)]; rfl
  have hpre : allSay (preL l b c (e3L l b c).u.isSome) := by
    refine ⟨rfl, invC_is o3, rfl, rfl, rfl, i2, invC_is o4, ?_, mkB_is (by omega), b1, ?_, invC_is o5, trivial⟩
    · rw [s5', hk]; simp
    · have e1 : ((eA (paL l b c (e3L l b c).u.isSome)).j : Int) = IntKind.wrap .i64 (((e3L l b c).j : Int) - (e4L l b c (e3L l b c).u.isSome).k) := by
        rw [hk, wrap64_in (by omega) (by omega)]
        show ((eA (pA 30 (uL l b c (e3L l b c).u.isSome) (eLt l b c (e3L l b c).u.isSome).n (eLt l b c (e3L l b c).u.isSome).l)).j : Int) = _
        rw [b3, s2', List.length_drop]; omega
      rw [e1, s5', hk]; simp
  by_cases f : (eLt l b c (e3L l b c).u.isSome).n = 0
  · refine (T.path_eval hw1 (allSay_append hpre ⟨by rw [f]; rfl, trivial⟩)).trans ?_
    rw [hk, decide_eq_false (show ¬ (k0 : Int) < ((e3L l b c).j : Int) by omega)]; rfl
  · have hl : k0 < (e3L l b c).l.length := by omega
    have hll : 0 < (eLt l b c (e3L l b c).u.isSome).l.length := by omega
    have hg0 : (g2w (eLt l b c (e3L l b c).u.isSome).l 0).1 = (k0 : Int) := by
      unfold g2w
      rw [List.getD_eq_getElem?_getD, show 0 + Int.toNat 0 = 0 from rfl, s2', List.getElem?_drop, Nat.add_zero, List.getElem?_eq_getElem hl, hat k0 hl]; rfl
    refine (T.path_eval hw2 (allSay_append hpre ⟨by rw [beq_eq_false_iff_ne]; omega, ?_, decide_eq_true (by show 0 + 0 < _; omega), ?_, trivial⟩)).trans ?_
    · rw [decide_eq_true (show (0 : Int) < ((eLt l b c (e3L l b c).u.isSome).n : Int) by omega), decide_eq_true (show 0 + Int.toNat 0 < (eLt l b c (e3L l b c).u.isSome).l.length by show 0 + 0 < _; omega)]; rfl
    · rw [decide_eq_true (show (1 : Int) ≤ ((eLt l b c (e3L l b c).u.isSome).n : Int) by omega), decide_eq_true (Int.le_refl ((eLt l b c (e3L l b c).u.isSome).n : Int)), decide_eq_true (show (eLt l b c (e3L l b c).u.isSome).n ≤ (eLt l b c (e3L l b c).u.isSome).l.length by omega)]; rfl
    · rw [hk, hg0, decide_eq_true (show (k0 : Int) < ((e3L l b c).j : Int) by omega)]; simp
end Go.Proofs.Ytenifknkahogjaa.Que
