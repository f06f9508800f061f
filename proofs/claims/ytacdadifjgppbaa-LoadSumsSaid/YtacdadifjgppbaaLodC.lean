/- Layer 2: the contracts of loads. -/
import Derived.Test.YtacdadifjgppbaaLodS
namespace Go.Proofs.Ytacdadifjgppbaa.Lod
open Go.Eng Go.RowKit Go.Flt
set_option linter.unusedVariables false
set_option linter.unusedSimpArgs false
/-- a float that is a whole number from 0 to 2^40: its number -/
def valW (x : Nat) : Int := (floatToIntVal .f64 x .i64).getD 0
def isW (x : Nat) : Bool := decide (0 ≤ valW x) && decide (valW x ≤ 1099511627776) && decide (x = fI (valW x).toNat)
theorem valW_fI {n : Nat} (h : n ≤ 1099511627776) : valW (fI n) = n := by unfold valW; rw [int_fI (by omega)]; rfl
theorem isW_fI {n : Nat} (h : n ≤ 1099511627776) : isW (fI n) = true := by
  unfold isW
  rw [valW_fI h]
  simp only [Bool.and_eq_true, decide_eq_true_eq]
  exact ⟨⟨by omega, by omega⟩, by rw [Int.toNat_natCast]⟩
theorem isW_some {x : Nat} (h : isW x = true) : ∃ n : Nat, n ≤ 1099511627776 ∧ x = fI n ∧ valW x = n := by
  unfold isW at h
  simp only [Bool.and_eq_true, decide_eq_true_eq] at h
  exact ⟨(valW x).toNat, by omega, h.2, by omega⟩
theorem floatOf {n : Int} (h0 : 0 ≤ n) (h : n ≤ 1099511627776) : floatOfInt .f64 n = fI n.toNat := by
  obtain ⟨m, rfl⟩ := Int.eq_ofNat_of_zero_le h0
  rw [Int.toNat_natCast]
  exact fI_nearest (by omega)
def wi (n : Int) : Int := if 1099511627776 < (if 0 > n then 0 else n) then 1099511627776 else if 0 > n then 0 else n
theorem wi_range (n : Int) : 0 ≤ wi n ∧ wi n ≤ 1099511627776 := by
  unfold wi; repeat' split
  all_goals omega
theorem wi_in {n : Int} (h0 : 0 ≤ n) (h : n ≤ 1099511627776) : wi n = n := by
  unfold wi; repeat' split
  all_goals omega
/-- the word of a whole number -/
def fW (n : Int) : Nat := fI (wi n).toNat
theorem valW_fW (n : Int) : valW (fW n) = wi n := by
  have := wi_range n
  unfold fW; rw [valW_fI (by omega)]; omega
theorem isW_fW (n : Int) : isW (fW n) = true := isW_fI (by have := wi_range n; omega)
theorem guard_eval {c : Bool} {x : T V} {v : V} (h : (T.ite none c x .fail).eval = some v) : c = true ∧ x.eval = some v := by
  cases c
  · cases h
  · exact ⟨rfl, h⟩
theorem ev_ite {i : Option Nat} {c : Bool} {x y : T V} {v : V} (h1 : c = true → x.eval = some v) (h2 : c = false → y.eval = some v) : (T.ite i c x y).eval = some v := by
  cases c
  · exact h2 rfl
  · exact h1 rfl
def withinC : Eng.Spec
  | [.s (.int .i64 n)] => .ret (iv (wi n))
  | _ => .fail
theorem withinC_ok : SpecOk Try.prog 58 withinC := by
  refine withinE_ok.of_den fun args v hfl h => ?_
  clear hfl
  unfold withinC at h
  split at h
  · rename_i n
    obtain rfl := Option.some.inj h
    have e : T.anon (withinE [iv n]) = .ret (iv (wi n)) := by kernel_rfl
    exact ⟨_, by rw [← T.eval_anon]; exact congrArg T.eval e, ⟨rfl, rfl⟩, rfl⟩
  · cases h
def wholeC : Eng.Spec
  | [.s (.float .f64 x)] => .ite none (isW x) (.ret (iv (valW x))) .fail
  | _ => .fail
theorem most_lit : (4787326403894837248 : Nat) = fI 1099511627776 := by decide +kernel
theorem zero_lit : (0 : Nat) = fI 0 := by decide +kernel
theorem whole_run (x : Nat) : T.anon (wholeE [.s (.float .f64 x)]) = T.ite none (FloatKind.f64.format.order x 4787326403894837248 == some .gt || FloatKind.f64.format.order x 4787326403894837248 == some .eq) (.ret (iv 1099511627776))
    (T.ite none (FloatKind.f64.format.order x 0 == some .gt) (T.ite none (floatToIntVal .f64 x .i64).isSome (.ret (iv ((floatToIntVal .f64 x .i64).getD 0))) .fail) (.ret (iv 0))) := by kernel_rfl
theorem cmp_gt {a b : Int} : (some (compare a b) == some Ordering.gt) = decide (b < a) := by
  simp only [compare, compareOfLessAndEq]
  split
  · rw [decide_eq_false (by omega)]; rfl
  · split
    · rw [decide_eq_false (by omega)]; rfl
    · rw [decide_eq_true (by omega)]; rfl
theorem cmp_eq {a b : Int} : (some (compare a b) == some Ordering.eq) = decide (a = b) := by
  simp only [compare, compareOfLessAndEq]
  split
  · rw [decide_eq_false (by omega)]; rfl
  · split
    · rename_i h; rw [decide_eq_true h]; rfl
    · rename_i h; rw [decide_eq_false h]; rfl
theorem whole_eval {x : Nat} (h : isW x = true) : (wholeE [.s (.float .f64 x)]).eval = some (iv (valW x)) := by
  obtain ⟨n, hn, rfl, hv⟩ := isW_some h
  rw [hv, ← T.eval_anon, whole_run, most_lit, zero_lit, order_fI (by omega) (by omega), order_fI (by omega) (by decide), cmp_gt, cmp_eq, cmp_gt, int_fI (by omega)]
  refine ev_ite (fun h => ?_) fun h => ev_ite (fun h2 => ?_) fun h2 => ?_
  · simp only [Bool.or_eq_true, decide_eq_true_eq] at h
    rw [show (n : Int) = 1099511627776 by omega]; rfl
  · exact tev_then rfl rfl
  · simp only [decide_eq_false_iff_not] at h2
    rw [show (n : Int) = 0 by omega]; rfl
theorem wholeC_ok : SpecOk Try.prog 59 wholeC := by
  refine wholeE_ok.of_den fun args v hfl h => ?_
  clear hfl
  unfold wholeC at h
  split at h
  · rename_i x
    obtain ⟨hk, h⟩ := guard_eval h
    obtain rfl := Option.some.inj h
    exact ⟨_, whole_eval hk, ⟨rfl, rfl⟩, rfl⟩
  · cases h
noncomputable def Q1 : Cfg := ⟨Try.prog, lookG [(58, .val withinC), (59, .val wholeC)], [], 0⟩
theorem Q1_ok : Q1.Ok := Cfg.ok ⟨withinC_ok, wholeC_ok, trivial⟩ trivial
theorem floatOf_wi (n : Int) : floatOfInt .f64 (wi n) = fW n := by
  have := wi_range n
  exact floatOf this.1 this.2
def ofC : Eng.Spec
  | [.s (.int .i64 a), .s (.int .i64 b)] => .ret (cx (fW a) (fW b))
  | _ => .fail
theorem ofC_ok : SpecOk Try.prog 19 ofC := by
  refine (execS_plain Q1_ok mixed Try.func19 (by kernel_rfl) (by kernel_rfl)).of_den fun args v hfl h => ?_
  clear hfl
  unfold ofC at h
  split at h
  · rename_i a b
    obtain rfl := Option.some.inj h
    have e : T.anon (execS Q1 noLoops 19 [iv a, iv b]) = .ret (cx (floatOfInt .f64 (wi a)) (floatOfInt .f64 (wi b))) := by kernel_rfl
    refine ⟨cx (fW a) (fW b), ?_, ⟨rfl, rfl⟩, rfl⟩
    rw [← T.eval_anon]
    refine Eq.trans (congrArg T.eval e) ?_
    rw [floatOf_wi, floatOf_wi]; rfl
  · cases h
def busyC : Eng.Spec
  | [.s (.cx .f64 x y)] => .ite none (isW x) (.ret (iv (valW x))) .fail
  | _ => .fail
theorem busyC_ok : SpecOk Try.prog 23 busyC := by
  refine (execS_plain Q1_ok mixed Try.func23 (by kernel_rfl) (by kernel_rfl)).of_den fun args v hfl h => ?_
  clear hfl
  unfold busyC at h
  split at h
  · rename_i x y
    obtain ⟨hk, h⟩ := guard_eval h
    obtain rfl := Option.some.inj h
    have e : T.anon (execS Q1 noLoops 23 [cx x y]) = .ite none (isW x) (.ret (iv (valW x))) .fail := by kernel_rfl
    refine ⟨iv (valW x), ?_, ⟨rfl, rfl⟩, rfl⟩
    rw [← T.eval_anon]
    exact (congrArg T.eval e).trans (tev_then hk rfl)
  · cases h
def waitC : Eng.Spec
  | [.s (.cx .f64 x y)] => .ite none (isW y) (.ret (iv (valW y))) .fail
  | _ => .fail
theorem waitC_ok : SpecOk Try.prog 24 waitC := by
  refine (execS_plain Q1_ok mixed Try.func24 (by kernel_rfl) (by kernel_rfl)).of_den fun args v hfl h => ?_
  clear hfl
  unfold waitC at h
  split at h
  · rename_i x y
    obtain ⟨hk, h⟩ := guard_eval h
    obtain rfl := Option.some.inj h
    have e : T.anon (execS Q1 noLoops 24 [cx x y]) = .ite none (isW y) (.ret (iv (valW y))) .fail := by kernel_rfl
    refine ⟨iv (valW y), ?_, ⟨rfl, rfl⟩, rfl⟩
    rw [← T.eval_anon]
    exact (congrArg T.eval e).trans (tev_then hk rfl)
  · cases h
noncomputable def Q2 : Cfg := ⟨Try.prog, lookG [(58, .val withinC), (19, .val ofC), (23, .val busyC), (24, .val waitC)], [], 0⟩
theorem Q2_ok : Q2.Ok := Cfg.ok ⟨withinC_ok, ofC_ok, busyC_ok, waitC_ok, trivial⟩ trivial
noncomputable def moveF : Eng.Spec := execS Q2 noLoops 20
theorem moveF_ok : SpecOk Try.prog 20 moveF := execS_plain Q2_ok mixed Try.func20 (by kernel_rfl) (by kernel_rfl)
noncomputable def swapF : Eng.Spec := execS Q2 noLoops 25
theorem swapF_ok : SpecOk Try.prog 25 swapF := execS_plain Q2_ok mixed Try.func25 (by kernel_rfl) (by kernel_rfl)
noncomputable def lessF : Eng.Spec := execS Q2 noLoops 26
theorem lessF_ok : SpecOk Try.prog 26 lessF := execS_plain Q2_ok mixed Try.func26 (by kernel_rfl) (by kernel_rfl)
end Go.Proofs.Ytacdadifjgppbaa.Lod
