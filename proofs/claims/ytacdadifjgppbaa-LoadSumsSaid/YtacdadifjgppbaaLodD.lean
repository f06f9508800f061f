/- Layer 2: the contracts of moves, changes, orders; when loads are alike. -/
import Derived.Test.YtacdadifjgppbaaLodC
namespace Go.Proofs.Ytacdadifjgppbaa.Lod
open Go.Eng Go.RowKit Go.Flt
set_option linter.unusedVariables false
set_option linter.unusedSimpArgs false
def mvB (b w n : Int) : Bool := decide (w < n) || decide (n < -b) || decide (1099511627776 - b < n) || decide (n < w - 1099511627776)
def moveC : Eng.Spec
  | [.s (.cx .f64 x y), .s (.int .i64 n)] => .ite none (isW x && isW y) (.ite none (mvB (valW x) (valW y) n) (.ret (.tup [cx (fW (valW x)) (fW (valW y)), iv 5])) (.ret (.tup [cx (fW (valW x + n)) (fW (valW y - n)), iv 0]))) .fail
  | _ => .fail
theorem move_run (x y : Nat) (n : Int) : T.anon (moveF [cx x y, iv n]) = T.ite none (isW x) (T.ite none (isW y) (T.ite none (bif bif bif decide (valW y < n) then true else decide (n < IntKind.wrap .i64 (0 - valW x)) then true else decide (IntKind.wrap .i64 (1099511627776 - valW x) < n) then true else decide (n < IntKind.wrap .i64 (valW y - 1099511627776)))
    (.ret (.tup [cx (fW (valW x)) (fW (valW y)), iv 5])) (.ret (.tup [cx (fW (IntKind.wrap .i64 (valW x + n))) (fW (IntKind.wrap .i64 (valW y - n))), iv 0]))) .fail) .fail := by kernel_rfl
theorem flat_two {c : Bool} {v1 v2 v : V} (h1 : flat v1 = true) (h2 : flat v2 = true) (h : (T.ite none c (.ret v1) (.ret v2)).eval = some v) : flat v = true := by
  cases c <;> (obtain rfl := Option.some.inj h) <;> assumption
theorem moveC_ok : SpecOk Try.prog 20 moveC := by
  refine moveF_ok.of_den fun args v hfl h => ?_
  clear hfl
  unfold moveC at h
  split at h
  · rename_i x y n
    obtain ⟨hk, h⟩ := guard_eval h
    simp only [Bool.and_eq_true] at hk
    refine ⟨v, ?_, ⟨flat_two rfl rfl h, flat_two rfl rfl h⟩, rfl⟩
    rw [← T.eval_anon]
    refine Eq.trans (congrArg T.eval (move_run x y n)) (tev_then hk.1 (tev_then hk.2 ?_))
    obtain ⟨b, hb, rfl, eb⟩ := isW_some hk.1
    obtain ⟨w, hw, rfl, ew⟩ := isW_some hk.2
    rw [eb, ew] at h ⊢
    rw [wrap64_in (n := 0 - (b : Int)) (by omega) (by omega), wrap64_in (n := 1099511627776 - (b : Int)) (by omega) (by omega), wrap64_in (n := (w : Int) - 1099511627776) (by omega) (by omega)]
    have ec : (bif bif bif decide ((w : Int) < n) then true else decide (n < 0 - (b : Int)) then true else decide (1099511627776 - (b : Int) < n) then true else decide (n < (w : Int) - 1099511627776)) = mvB b w n := by
      unfold mvB
      rw [cond_or, cond_or, cond_or, Int.zero_sub]
    rw [ec]
    cases q : mvB b w n
    · rw [q] at h
      unfold mvB at q
      simp only [Bool.or_eq_false_iff, decide_eq_false_iff_not] at q
      refine tev_else rfl ?_
      rw [wrap64_in (n := (b : Int) + n) (by omega) (by omega), wrap64_in (n := (w : Int) - n) (by omega) (by omega)]
      exact h
    · rw [q] at h
      exact tev_then rfl h
  · cases h
def swapC : Eng.Spec
  | [.s (.cx .f64 x y)] => .ite none (isW x && isW y) (.ret (cx (fW (valW y)) (fW (valW x)))) .fail
  | _ => .fail
theorem swapC_ok : SpecOk Try.prog 25 swapC := by
  refine swapF_ok.of_den fun args v hfl h => ?_
  clear hfl
  unfold swapC at h
  split at h
  · rename_i x y
    obtain ⟨hk, h⟩ := guard_eval h
    obtain rfl := Option.some.inj h
    simp only [Bool.and_eq_true] at hk
    have e : T.anon (swapF [cx x y]) = T.ite none (isW y) (T.ite none (isW x) (.ret (cx (fW (valW y)) (fW (valW x)))) .fail) .fail := by kernel_rfl
    refine ⟨cx (fW (valW y)) (fW (valW x)), ?_, ⟨rfl, rfl⟩, rfl⟩
    rw [← T.eval_anon]
    exact Eq.trans (congrArg T.eval e) (tev_then hk.2 (tev_then hk.1 rfl))
  · cases h
def lessB (b w b' w' : Int) : Bool := if b = b' then decide (w < w') else decide (b < b')
def all4 (x y x' y' : Nat) : Bool := isW x && isW y && isW x' && isW y'
def lessC : Eng.Spec
  | [.s (.cx .f64 x y), .s (.cx .f64 x' y')] => .ite none (all4 x y x' y') (.ret (.s (.bool (lessB (valW x) (valW y) (valW x') (valW y'))))) .fail
  | _ => .fail
theorem less_run (x y x' y' : Nat) : T.anon (lessF [cx x y, cx x' y']) = T.ite none (isW x) (T.ite none (isW x') (T.ite none (valW x != valW x') (T.ite none (isW x) (T.ite none (isW x') (.ret (.s (.bool (decide (valW x < valW x'))))) .fail) .fail)
    (T.ite none (isW y) (T.ite none (isW y') (.ret (.s (.bool (decide (valW y < valW y'))))) .fail) .fail)) .fail) .fail := by kernel_rfl
theorem lessC_ok : SpecOk Try.prog 26 lessC := by
  refine lessF_ok.of_den fun args v hfl h => ?_
  clear hfl
  unfold lessC at h
  split at h
  · rename_i x y x' y'
    obtain ⟨hk, h⟩ := guard_eval h
    obtain rfl := Option.some.inj h
    simp only [all4, Bool.and_eq_true] at hk
    refine ⟨.s (.bool (lessB (valW x) (valW y) (valW x') (valW y'))), ?_, ⟨rfl, rfl⟩, rfl⟩
    rw [← T.eval_anon]
    refine Eq.trans (congrArg T.eval (less_run x y x' y')) (tev_then hk.1.1.1 (tev_then hk.1.2 ?_))
    unfold lessB
    by_cases q : valW x = valW x'
    · rw [if_pos q]
      exact tev_else (by rw [q]; simp) (tev_then hk.1.1.2 (tev_then hk.2 rfl))
    · rw [if_neg q]
      exact tev_then (by simpa using q) (tev_then hk.1.1.1 (tev_then hk.1.2 rfl))
  · cases h
def alikeC : Eng.Spec
  | [.s (.cx .f64 x y), .s (.cx .f64 x' y')] => .ite none (all4 x y x' y') (.ret (.s (.bool (decide (valW x = valW x') && decide (valW y = valW y'))))) .fail
  | _ => .fail
theorem alikeC_ok : SpecOk Try.prog 22 alikeC := by
  refine (execS_plain P0_ok mixed Try.func22 (by kernel_rfl) (by kernel_rfl)).of_den fun args v hfl h => ?_
  clear hfl
  unfold alikeC at h
  split at h
  · rename_i x y x' y'
    obtain ⟨hk, h⟩ := guard_eval h
    obtain rfl := Option.some.inj h
    simp only [all4, Bool.and_eq_true] at hk
    have e : T.anon (execS P0 noLoops 22 [cx x y, cx x' y']) = .ret (.s (.bool (bif FloatKind.f64.format.order x x' == some .eq then FloatKind.f64.format.order y y' == some .eq else false))) := by kernel_rfl
    refine ⟨.s (.bool (decide (valW x = valW x') && decide (valW y = valW y'))), ?_, ⟨rfl, rfl⟩, rfl⟩
    rw [← T.eval_anon]
    refine Eq.trans (congrArg T.eval e) ?_
    obtain ⟨a, ha, rfl, ea⟩ := isW_some hk.1.1.1
    obtain ⟨b, hb, rfl, eb⟩ := isW_some hk.1.1.2
    obtain ⟨a', ha', rfl, ea'⟩ := isW_some hk.1.2
    obtain ⟨b', hb', rfl, eb'⟩ := isW_some hk.2
    rw [ea, eb, ea', eb', order_fI (by omega) (by omega), order_fI (by omega) (by omega), cmp_eq, cmp_eq, cond_and]
    rfl
  · cases h
noncomputable def Q3 : Cfg := ⟨Try.prog, lookG [(21, .val yesD), (22, .val alikeC), (19, .val ofC), (23, .val busyC), (24, .val waitC), (20, .val moveC), (25, .val swapC), (26, .val lessC)], [], 0⟩
theorem Q3_ok : Q3.Ok := Cfg.ok ⟨told_ok, alikeC_ok, ofC_ok, busyC_ok, waitC_ok, moveC_ok, swapC_ok, lessC_ok, trivial⟩ trivial
end Go.Proofs.Ytacdadifjgppbaa.Lod
