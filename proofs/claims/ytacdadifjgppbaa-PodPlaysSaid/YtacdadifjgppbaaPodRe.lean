/- Layer 8: the rounds of PodPlays. -/
import Derived.Test.YtacdadifjgppbaaPodRd
import Derived.Test.YtacdadifjgppbaaBrkAd
import Derived.Test.YtacdadifjgppbaaPodSc
namespace Go.Proofs.Ytacdadifjgppbaa.Pod
open Go.Eng Go.RowKit Go.Flt Lod Brk
set_option linter.unusedVariables false
set_option linter.unusedSimpArgs false
theorem allSay_append : ∀ {l r : List (Bool × Bool)}, allSay l → allSay r → allSay (l ++ r)
  | [], r, _, h => h
  | p :: l, r, h1, h2 => ⟨h1.1, allSay_append h1.2 h2⟩
theorem sameP_ok {L D : Int} {X Y : Nat} {b w : Int} (h : okP L D X Y b w) : (!(sameP X Y b w)) = false := by
  obtain ⟨h1, h2, rfl, rfl, -⟩ := h
  unfold sameP
  rw [ord_ok h1, ord_ok h2]; rfl
def okW (p : PW) (a : AW) : Prop := (p.id' = p.id ∧ p.m' = p.m ∧ p.L' = p.L ∧ p.D' = p.D ∧ 0 ≤ p.m ∧ p.k = p.g.length ∧ p.k ≤ 100) ∧ (a.t' = a.t ∧ a.u' = a.u ∧ a.s' = a.s) ∧ (p.m ≤ a.t ∧ a.t ≤ a.u ∧ a.u ≤ 1099511627776 ∧ 0 ≤ a.s ∧ a.s ≤ 2000 * (a.u - a.t)) ∧ okP p.L p.D a.x a.y a.b a.w ∧ 0 ≤ a.i
def goW (p : PW) (a : AW) : Bool := decide (a.i < (p.k : Int))
def muW (p : PW) (a : AW) : Nat := (p.k - a.i).toNat
theorem pre_ok {p : PW} {a : AW} (h : okW p a) (hg : goW p a = true) : allSay (preW p a (k63 p a)) := by
  have h1 : a.i < (p.k : Int) := of_decide_eq_true hg
  have h2 := h.1.2.2.2.2.2.1
  have h3 := h.2.2.2.2
  have l1 : ldW p a = true := decide_eq_true (by omega)
  have i1 : idW p a = true := by
    unfold idW
    rw [decide_eq_true h3, decide_eq_true h1, decide_eq_true (show 0 + a.i.toNat < p.g.length by omega)]; rfl
  cases e : k63 p a
  · exact ⟨decide_eq_true h1, i1, l1, rfl, i1, l1, e, i1, l1, trivial⟩
  · exact ⟨decide_eq_true h1, i1, l1, rfl, i1, l1, e, i1, l1, i1, l1, trivial⟩
theorem nx_ok {p : PW} {a : AW} (h : okW p a) (hg : goW p a = true) : IntKind.wrap .i64 (a.i + 1) = a.i + 1 ∧ (p.k - (a.i + 1)).toNat < (p.k - a.i).toNat := by
  have h1 : a.i < (p.k : Int) := of_decide_eq_true hg
  have h2 := h.1.2.2.2.2.2.2
  have h3 := h.2.2.2.2
  exact ⟨wrap64_in (by omega) (by omega), by omega⟩
theorem okW_R {p : PW} {a : AW} (h : okW p a) : okR p.m a.t a.u a.s p.L p.D a.x a.y = true ∧ okB p.L p.D a.x a.y = true := by
  obtain ⟨⟨-, -, -, -, h5, -⟩, -, ⟨t1, t2, t3, t4, t5⟩, ⟨k1, k2, k3, k4, k5, k6, k7, k8, k9, k10, k11, k12, k13⟩, -⟩ := h
  exact ⟨okR_of k1 k2 (by omega) (by omega) (by omega) (by omega) ⟨h5, t1, t2, t3, t4, by omega⟩, okB_is k1 k2 (by omega) (by omega) (by omega) (by omega)⟩
abbrev S1 (a : AW) (n : Int) : Int := a.s + (valW a.x + valW a.y) * (n - a.u)
abbrev S2 (a : AW) (n : Int) : Int := IntKind.wrap .i64 (a.s' + IntKind.wrap .i64 (IntKind.wrap .i64 (n - a.u') * IntKind.wrap .i64 (a.b + a.w)))
theorem sums {p : PW} {a : AW} {n : Int} (h : okW p a) (hn : a.u ≤ n ∧ n ≤ 1099511627776) : S2 a n = S1 a n ∧ 0 ≤ S1 a n ∧ S1 a n ≤ 2000 * (n - a.t) := by
  obtain ⟨⟨-, -, -, -, h5, -⟩, ⟨e1, e2, e3⟩, ⟨t1, t2, t3, t4, t5⟩, ⟨k1, k2, k3, k4, k5, k6, k7, k8, k9, k10, k11, k12, k13⟩, -⟩ := h
  unfold S2 S1
  rw [e2, e3, ← k3, ← k4]
  have p1 : 0 ≤ (a.b + a.w) * (n - a.u) ∧ (a.b + a.w) * (n - a.u) ≤ 2000 * (n - a.u) := ⟨Int.mul_nonneg (by omega) (by omega), Int.mul_le_mul_of_nonneg_right (by omega) (by omega)⟩
  rw [wrap64_in (n := n - a.u) (by omega) (by omega), wrap64_in (n := a.b + a.w) (by omega) (by omega), Int.mul_comm (n - a.u), wrap64_in (n := (a.b + a.w) * (n - a.u)) (by omega) (by omega), wrap64_in (n := a.s + _) (by omega) (by omega)]
  exact ⟨rfl, by omega, by omega⟩
theorem stay_ok {p : PW} {a : AW} (h : okW p a) (hg : goW p a = true) : okW p ⟨a.t, a.u, a.s, a.x, a.y, a.u', a.t', a.s', a.b, a.w, IntKind.wrap .i64 (a.i + 1)⟩ ∧ muW p ⟨a.t, a.u, a.s, a.x, a.y, a.u', a.t', a.s', a.b, a.w, IntKind.wrap .i64 (a.i + 1)⟩ < muW p a := by
  have hn := nx_ok h hg
  rw [hn.1]
  exact ⟨⟨h.1, h.2.1, h.2.2.1, h.2.2.2.1, by have := h.2.2.2.2; show 0 ≤ a.i + 1; omega⟩, hn.2⟩
theorem fin_ok {p : PW} {a : AW} {n : Int} {X Y : Nat} {b w : Int} (h : okW p a) (hg : goW p a = true) (hn : a.u ≤ n ∧ n ≤ 1099511627776) (hk : okP p.L p.D X Y b w) :
    okW p ⟨a.t, n, S1 a n, X, Y, n, a.t', S2 a n, b, w, IntKind.wrap .i64 (a.i + 1)⟩ ∧ muW p ⟨a.t, n, S1 a n, X, Y, n, a.t', S2 a n, b, w, IntKind.wrap .i64 (a.i + 1)⟩ < muW p a := by
  have hx := nx_ok h hg
  have hs := sums h hn
  rw [hx.1]
  exact ⟨⟨h.1, ⟨h.2.1.1, rfl, hs.1⟩, ⟨h.2.2.1.1, Int.le_trans h.2.2.1.2.1 hn.1, hn.2, hs.2.1, hs.2.2⟩, hk, by have := h.2.2.2.2; show 0 ≤ a.i + 1; omega⟩, hx.2⟩
theorem finS_ok {p : PW} {a : AW} {n : Int} (h : okW p a) (hg : goW p a = true) (hn : a.u ≤ n ∧ n ≤ 1099511627776) :
    okW p ⟨n, n, 0, a.x, a.y, n, n, 0, a.b, a.w, IntKind.wrap .i64 (a.i + 1)⟩ ∧ muW p ⟨n, n, 0, a.x, a.y, n, n, 0, a.b, a.w, IntKind.wrap .i64 (a.i + 1)⟩ < muW p a := by
  have hx := nx_ok h hg
  rw [hx.1]
  have := h.2.2.1
  exact ⟨⟨h.1, ⟨rfl, rfl, rfl⟩, ⟨by show p.m ≤ n; omega, Int.le_refl n, hn.2, Int.le_refl 0, by show (0 : Int) ≤ 2000 * (n - n); omega⟩, h.2.2.2.1, by have := h.2.2.2.2; show 0 ≤ a.i + 1; omega⟩, hx.2⟩
theorem enterW {p : PW} {a : AW} (h : okW p a) (hg : goW p a = true) (hk : kdW p a < 3) : ∃ b, stepC okW rdW FW muW p a b := by
  have hp := pre_ok h hg
  obtain ⟨r1, r2⟩ := okW_R h
  have hb2 : bad a.u' (nW p a (k63 p a)) = bad a.u (nW p a (k63 p a)) := by rw [h.2.1.2.1]
  cases q : bad a.u (nW p a (k63 p a))
  · have hn := bad_false q
    obtain ⟨⟨e1, e2, e3, e4, -⟩, -, -, hP, -⟩ := id h
    have hP0 := hP
    obtain ⟨k1, k2, k3, k4, k5, k6, k7, k8, k9, k10, k11, k12, k13⟩ := hP
    by_cases c : valW a.x < p.L
    · have hc : IntKind.wrap .i64 (a.b + 1) = a.b + 1 := wrap64_in (by omega) (by omega)
      have ok : okP p.L p.D (fW (valW a.x + 1)) (fW (valW a.y)) (IntKind.wrap .i64 (a.b + 1)) a.w := by
        unfold okP; rw [vfw (t := valW a.x + 1) (by omega) (by omega), vfw (t := valW a.y) (by omega) (by omega), hc]
        exact ⟨isW_fW _, isW_fW _, by omega, k4, k5, k6, k7, k8, by omega, by omega, k11, k12, by omega⟩
      exact ⟨_, T.path_eval (wayE1 p a (k63 p a)) (allSay_append hp ⟨decide_eq_true hk, r1, q, r2, decide_eq_true c, hb2.trans q, decide_eq_true (by rw [e3]; omega), rfl, sameP_ok ok, trivial⟩), fin_ok h hg hn ok⟩
    by_cases d : valW a.y < p.D
    · have hc : IntKind.wrap .i64 (a.w + 1) = a.w + 1 := wrap64_in (by omega) (by omega)
      have ok : okP p.L p.D (fW (valW a.x)) (fW (valW a.y + 1)) a.b (IntKind.wrap .i64 (a.w + 1)) := by
        unfold okP; rw [vfw (t := valW a.x) (by omega) (by omega), vfw (t := valW a.y + 1) (by omega) (by omega), hc]
        exact ⟨isW_fW _, isW_fW _, k3, by omega, k5, k6, k7, k8, k9, k10, by omega, by omega, by omega⟩
      exact ⟨_, T.path_eval (wayE2 p a (k63 p a)) (allSay_append hp ⟨decide_eq_true hk, r1, q, r2, decide_eq_false c, decide_eq_true d, hb2.trans q, decide_eq_false (by rw [e3]; omega), decide_eq_true (by rw [e4]; omega), rfl, sameP_ok ok, trivial⟩), fin_ok h hg hn ok⟩
    · exact ⟨_, T.path_eval (wayE3 p a (k63 p a)) (allSay_append hp ⟨decide_eq_true hk, r1, q, r2, decide_eq_false c, decide_eq_false d, hb2.trans q, decide_eq_false (by rw [e3]; omega), decide_eq_false (by rw [e4]; omega), rfl, sameP_ok hP0, trivial⟩), fin_ok h hg hn hP0⟩
  · exact ⟨_, T.path_eval (wayE0 p a (k63 p a)) (allSay_append hp ⟨decide_eq_true hk, r1, q, hb2.trans q, rfl, sameP_ok h.2.2.2.1, trivial⟩), stay_ok h hg⟩
theorem leaveW {p : PW} {a : AW} (h : okW p a) (hg : goW p a = true) (hk : ¬ kdW p a < 3) (hk5 : kdW p a < 5) : ∃ b, stepC okW rdW FW muW p a b := by
  have hp := pre_ok h hg
  obtain ⟨r1, r2⟩ := okW_R h
  have hb2 : bad a.u' (nW p a (k63 p a)) = bad a.u (nW p a (k63 p a)) := by rw [h.2.1.2.1]
  cases q : bad a.u (nW p a (k63 p a))
  · have hn := bad_false q
    obtain ⟨⟨e1, e2, e3, e4, -⟩, -, -, hP, -⟩ := id h
    have hP0 := hP
    obtain ⟨k1, k2, k3, k4, k5, k6, k7, k8, k9, k10, k11, k12, k13⟩ := hP
    by_cases c : valW a.x = 0
    · exact ⟨_, T.path_eval (wayL1 p a (k63 p a)) (allSay_append hp ⟨decide_eq_false hk, decide_eq_true hk5, r1, q, r2, by rw [c]; rfl, hb2.trans q, by rw [k3, c]; rfl, rfl, sameP_ok hP0, trivial⟩), fin_ok h hg hn hP0⟩
    have c1 : (valW a.x == 0) = false := by rw [beq_eq_false_iff_ne]; exact c
    have c2 : (a.b == 0) = false := by rw [k3]; exact c1
    have hc : IntKind.wrap .i64 (a.b - 1) = a.b - 1 := wrap64_in (by omega) (by omega)
    have hc2 : IntKind.wrap .i64 (IntKind.wrap .i64 (a.b - 1) + 1) = a.b := by rw [hc]; exact (wrap64_in (by omega) (by omega)).trans (by omega)
    by_cases r : 0 < a.w ∧ a.b - 1 < p.L
    · have ha : adm p.L (valW a.x - 1) (valW a.y) = 1 := by
        have := k13 r.1
        unfold adm fr; repeat' split
        all_goals omega
      have hd : IntKind.wrap .i64 (a.w - 1) = a.w - 1 := wrap64_in (by omega) (by omega)
      have ok : okP p.L p.D (fW (valW a.x - 1 + adm p.L (valW a.x - 1) (valW a.y))) (fW (valW a.y - adm p.L (valW a.x - 1) (valW a.y))) (IntKind.wrap .i64 (IntKind.wrap .i64 (a.b - 1) + 1)) (IntKind.wrap .i64 (a.w - 1)) := by
        rw [ha, hc2, hd]
        unfold okP; rw [vfw (t := valW a.x - 1 + 1) (by omega) (by omega), vfw (t := valW a.y - 1) (by omega) (by omega)]
        exact ⟨isW_fW _, isW_fW _, by omega, by omega, k5, k6, k7, k8, k9, k10, by omega, by omega, by omega⟩
      exact ⟨_, T.path_eval (wayL2 p a (k63 p a)) (allSay_append hp ⟨decide_eq_false hk, decide_eq_true hk5, r1, q, r2, c1, hb2.trans q, c2, by rw [hc, e3, decide_eq_true r.1, decide_eq_true r.2]; rfl, by rw [ha]; rfl, sameP_ok ok, trivial⟩), fin_ok h hg hn ok⟩
    · have ha : adm p.L (valW a.x - 1) (valW a.y) = 0 := by
        unfold adm fr; repeat' split
        all_goals omega
      have ok : okP p.L p.D (fW (valW a.x - 1 + adm p.L (valW a.x - 1) (valW a.y))) (fW (valW a.y - adm p.L (valW a.x - 1) (valW a.y))) (IntKind.wrap .i64 (a.b - 1)) a.w := by
        rw [ha, hc]
        unfold okP; rw [vfw (t := valW a.x - 1 + 0) (by omega) (by omega), vfw (t := valW a.y - 0) (by omega) (by omega)]
        exact ⟨isW_fW _, isW_fW _, by omega, by omega, k5, k6, k7, k8, by omega, by omega, k11, k12, by omega⟩
      have hr : (bif decide (0 < a.w) then decide (IntKind.wrap .i64 (a.b - 1) < p.L') else false) = false := by
        rw [hc, e3]
        by_cases r1 : 0 < a.w
        · rw [decide_eq_true r1, decide_eq_false (show ¬ a.b - 1 < p.L from fun z => r ⟨r1, z⟩)]; rfl
        · rw [decide_eq_false r1]; rfl
      exact ⟨_, T.path_eval (wayL3 p a (k63 p a)) (allSay_append hp ⟨decide_eq_false hk, decide_eq_true hk5, r1, q, r2, c1, hb2.trans q, c2, hr, by rw [ha]; rfl, sameP_ok ok, trivial⟩), fin_ok h hg hn ok⟩
  · exact ⟨_, T.path_eval (wayL0 p a (k63 p a)) (allSay_append hp ⟨decide_eq_false hk, decide_eq_true hk5, r1, q, hb2.trans q, rfl, sameP_ok h.2.2.2.1, trivial⟩), stay_ok h hg⟩
theorem mean_eq {s d : Int} (hs : 0 ≤ s) (hd : 0 < d) : Int.tdiv (s * 1000) d = Int.tdiv s d * 1000 + Int.tdiv (Int.tmod s d * 1000) d := by
  have hm := Int.emod_nonneg s (Int.ne_of_gt hd)
  rw [Int.tdiv_eq_ediv_of_nonneg (by omega), Int.tdiv_eq_ediv_of_nonneg hs, Int.tmod_eq_emod_of_nonneg hs, Int.tdiv_eq_ediv_of_nonneg (by omega)]
  have e : s * 1000 = s % d * 1000 + d * (s / d * 1000) := by
    have := Int.emod_add_mul_ediv s d
    rw [← Int.mul_assoc, ← Int.add_mul, this]
  rw [e, Int.add_mul_ediv_left _ _ (Int.ne_of_gt hd)]
  omega
theorem statW {p : PW} {a : AW} (h : okW p a) (hg : goW p a = true) (hk : ¬ kdW p a < 3) (hk5 : ¬ kdW p a < 5) : ∃ b, stepC okW rdW FW muW p a b := by
  have hp := pre_ok h hg
  obtain ⟨r1, r2⟩ := okW_R h
  have hb2 : bad a.u' (nW p a (k63 p a)) = bad a.u (nW p a (k63 p a)) := by rw [h.2.1.2.1]
  cases q : bad a.u (nW p a (k63 p a))
  · have hn := bad_false q
    obtain ⟨s1, s2, s3⟩ := sums h hn
    obtain ⟨⟨e1, e2, e3, e4, e5, -⟩, ⟨f1, f2, f3⟩, ⟨t1, t2, t3, t4, t5⟩, hP, -⟩ := id h
    have hP0 := hP
    obtain ⟨k1, k2, k3, k4, k5, k6, k7, k8, k9, k10, k11, k12, k13⟩ := hP
    have hw : (isW a.x && isW a.y) = true := by rw [k1, k2]; rfl
    by_cases c : a.t < nW p a (k63 p a)
    · have d1 : IntKind.wrap .i64 (nW p a (k63 p a) - a.t) = nW p a (k63 p a) - a.t := wrap64_in (by omega) (by omega)
      have d2 : (IntKind.wrap .i64 (nW p a (k63 p a) - a.t') == 0) = false := by rw [f1, d1, beq_eq_false_iff_ne]; omega
      have d3 : IntKind.wrap .i64 (S1 a (nW p a (k63 p a)) * 1000) = S1 a (nW p a (k63 p a)) * 1000 := wrap64_in (by omega) (by omega)
      refine ⟨_, T.path_eval (wayS1 p a (k63 p a)) (allSay_append hp ⟨decide_eq_false hk, decide_eq_false hk5, r1, q, hw, decide_eq_true c, decide_eq_true ⟨?_, ?_, ?_⟩, hb2.trans q, decide_eq_true (by rw [f1]; exact c), d2, d2, d2, ?_, sameP_ok hP0, trivial⟩), finS_ok h hg hn⟩
      · show 0 ≤ IntKind.wrap .i64 (S1 a (nW p a (k63 p a)) * 1000); rw [d3]; omega
      · show IntKind.wrap .i64 (S1 a (nW p a (k63 p a)) * 1000) ≤ 9223372036854775807; rw [d3]; omega
      · rw [d1]; omega
      · show (!(p.id == p.id' && (IntKind.wrap .i64 (nW p a (k63 p a) - p.m) == IntKind.wrap .i64 (nW p a (k63 p a) - p.m') && (Int.tdiv (IntKind.wrap .i64 (S1 a (nW p a (k63 p a)) * 1000)) (IntKind.wrap .i64 (nW p a (k63 p a) - a.t)) ==
          IntKind.wrap .i64 (IntKind.wrap .i64 (IntKind.wrap .i64 (Int.tdiv (S2 a (nW p a (k63 p a))) (IntKind.wrap .i64 (nW p a (k63 p a) - a.t'))) * 1000) + IntKind.wrap .i64 (Int.tdiv (IntKind.wrap .i64 (Int.tmod (S2 a (nW p a (k63 p a))) (IntKind.wrap .i64 (nW p a (k63 p a) - a.t')) * 1000)) (IntKind.wrap .i64 (nW p a (k63 p a) - a.t')))) && true)))) = false
        rw [e1, e2, f1, d3, d1, s1]
        have hd : 0 < nW p a (k63 p a) - a.t := by omega
        have m5 : nW p a (k63 p a) - a.t ≤ 1099511627776 := by omega
        generalize S1 a (nW p a (k63 p a)) = S at *
        generalize nW p a (k63 p a) - a.t = d at *
        have m1 := mean_eq s2 hd
        have m2 : 0 ≤ Int.tdiv S d ∧ Int.tdiv S d ≤ S := by rw [Int.tdiv_eq_ediv_of_nonneg s2]; exact ⟨Int.ediv_nonneg s2 (by omega), Int.ediv_le_self _ s2⟩
        have m3 : 0 ≤ Int.tmod S d ∧ Int.tmod S d < d := by rw [Int.tmod_eq_emod_of_nonneg s2]; exact ⟨Int.emod_nonneg _ (by omega), Int.emod_lt_of_pos _ hd⟩
        have m4 : 0 ≤ Int.tdiv (Int.tmod S d * 1000) d ∧ Int.tdiv (Int.tmod S d * 1000) d ≤ Int.tmod S d * 1000 := by rw [Int.tdiv_eq_ediv_of_nonneg (by omega)]; exact ⟨Int.ediv_nonneg (by omega) (by omega), Int.ediv_le_self _ (by omega)⟩
        rw [wrap64_in (n := Int.tdiv S d) (by omega) (by omega), wrap64_in (n := Int.tdiv S d * 1000) (by omega) (by omega), wrap64_in (n := Int.tmod S d * 1000) (by omega) (by omega), wrap64_in (n := Int.tdiv (Int.tmod S d * 1000) d) (by omega) (by omega), wrap64_in (n := _ + _) (by omega) (by omega), m1]
        simp
    · refine ⟨_, T.path_eval (wayS2 p a (k63 p a)) (allSay_append hp ⟨decide_eq_false hk, decide_eq_false hk5, r1, q, hw, decide_eq_false c, hb2.trans q, decide_eq_false (by rw [f1]; exact c), ?_, sameP_ok hP0, trivial⟩), finS_ok h hg hn⟩
      show (!(p.id == p.id' && (IntKind.wrap .i64 (nW p a (k63 p a) - p.m) == IntKind.wrap .i64 (nW p a (k63 p a) - p.m') && (IntKind.wrap .i64 ((valW a.x + valW a.y) * 1000) == IntKind.wrap .i64 (IntKind.wrap .i64 (a.b + a.w) * 1000) && true)))) = false
      rw [e1, e2, ← k3, ← k4, wrap64_in (n := a.b + a.w) (by omega) (by omega)]
      simp
  · exact ⟨_, T.path_eval (wayS0 p a (k63 p a)) (allSay_append hp ⟨decide_eq_false hk, decide_eq_false hk5, r1, q, hb2.trans q, rfl, sameP_ok h.2.2.2.1, trivial⟩), stay_ok h hg⟩
theorem stepW_ok (p : PW) (a : AW) (h : okW p a) (hg : goW p a = true) : ∃ b, stepC okW rdW FW muW p a b := by
  by_cases k1 : kdW p a < 3
  · exact enterW h hg k1
  by_cases k2 : kdW p a < 5
  · exact leaveW h hg k1 k2
  · exact statW h hg k1 k2
theorem exW (p : PW) (a : AW) (h : okW p a) (hg : goW p a = false) : (rdW p a).eval = some (.exit 0, FW p a) := T.path_eval (wayX p a) ⟨hg, trivial⟩
end Go.Proofs.Ytacdadifjgppbaa.Pod
