import Derived.Test.YtndcealgackgiaaChecked
import Derived.Test.YtndcealgackgiaaGE
/- Layer 9: sums cut at the ends of 64 bits, by the program and by the document. -/
namespace Go.Proofs.Ytndcealgackgiaa.Sta
open Go.Eng Go.RowKit Mil
set_option linter.unusedVariables false
set_option linter.unusedSimpArgs false
theorem mixed : Try.prog.follows .mixedOrders = true := Checked.mixed Try.checked
def iv (n : Int) : V := .s (.int .i64 n)
def bv (b : Bool) : V := .s (.bool b)
def inR (a : Int) : Bool := decide (-9223372036854775808 ≤ a) && decide (a ≤ 9223372036854775807)
theorem inR_iff {a : Int} : inR a = true ↔ -9223372036854775808 ≤ a ∧ a ≤ 9223372036854775807 := by simp [inR]
def pairV (a b : Int) : V := .tup [iv a, iv b]
theorem guard_eval {c : Bool} {x : T V} {v : V} (h : (T.ite none c x .fail).eval = some v) : c = true ∧ x.eval = some v := by
  cases c
  · cases h
  · exact ⟨rfl, h⟩
theorem ev_ite {i : Option Nat} {c : Bool} {x y : T V} {v : V} (h1 : c = true → x.eval = some v) (h2 : c = false → y.eval = some v) : (T.ite i c x y).eval = some v := by
  cases c
  · exact h2 rfl
  · exact h1 rfl
theorem ev_pair {a b a' b' : Int} (h1 : a = a') (h2 : b = b') : (T.ret (V.tup [V.s (.int .i64 a), V.s (.int .i64 b)])).eval = some (pairV a' b') := by rw [h1, h2]; rfl
theorem bif_eq_true {a b : Bool} : (bif a then b else false) = true ↔ a = true ∧ b = true := by cases a <;> simp
theorem bif_eq_false {a b : Bool} : (bif a then b else false) = false ↔ (a = true → b = false) := by cases a <;> simp
theorem wrap_congr {n m : Int} (h : n % 18446744073709551616 = m % 18446744073709551616) : IntKind.wrap .i64 n = IntKind.wrap .i64 m := by
  have h' : n % 2 ^ IntKind.i64.bits = m % 2 ^ IntKind.i64.bits := h
  simp only [IntKind.wrap, h']
theorem add_cases {a b : Int} (h1 : -9223372036854775808 ≤ a) (h2 : a ≤ 9223372036854775807) (h3 : -9223372036854775808 ≤ b) (h4 : b ≤ 9223372036854775807) :
    (IntKind.wrap .i64 (a + b) = if 9223372036854775807 < a + b then a + b - 18446744073709551616 else if a + b < -9223372036854775808 then a + b + 18446744073709551616 else a + b) := by
  by_cases c1 : 9223372036854775807 < a + b
  · rw [if_pos c1, ← IntWalk.i64_in (a + b - 18446744073709551616) ⟨by omega, by omega⟩]
    exact wrap_congr (by omega)
  · rw [if_neg c1]
    by_cases c2 : a + b < -9223372036854775808
    · rw [if_pos c2, ← IntWalk.i64_in (a + b + 18446744073709551616) ⟨by omega, by omega⟩]
      exact wrap_congr (by omega)
    · rw [if_neg c2, wrap64_in (by omega) (by omega)]
def addS : Eng.Spec
  | [.s (.int .i64 a), .s (.int .i64 b)] => .ite none (inR a && inR b) (.ret (pairV (cutV (a + b)) (cutE (a + b)))) .fail
  | _ => .fail
theorem addS_of {P : Program} {n : Nat} {sp : Eng.Spec} (h : SpecOk P n sp)
    (he : ∀ a b, -9223372036854775808 ≤ a → a ≤ 9223372036854775807 → -9223372036854775808 ≤ b → b ≤ 9223372036854775807 → (sp [iv a, iv b]).eval = some (pairV (cutV (a + b)) (cutE (a + b)))) : SpecOk P n addS := by
  refine h.of_den fun args v hfl h => ?_
  clear hfl
  unfold addS at h
  split at h
  · rename_i a b
    obtain ⟨hc, h⟩ := guard_eval h
    simp only [Bool.and_eq_true, inR_iff] at hc
    obtain rfl := Option.some.inj h
    exact ⟨_, he a b hc.1.1 hc.1.2 hc.2.1 hc.2.2, ⟨rfl, rfl⟩, rfl⟩
  · cases h
noncomputable def P0 : Cfg := ⟨Try.prog, lookG [], [], 0⟩
theorem P0_ok : P0.Ok := Cfg.ok trivial trivial
noncomputable def sumS : Eng.Spec := execS P0 noLoops 14
theorem sum_ok : SpecOk Try.prog 14 sumS := execS_plain P0_ok mixed Try.func14 (by kernel_rfl) (by kernel_rfl)
noncomputable def tellS : Eng.Spec := execS P0 noLoops 13
theorem tell_ok : SpecOk Try.prog 13 tellS := execS_plain P0_ok mixed Try.func13 (by kernel_rfl) (by kernel_rfl)
noncomputable def PA : Cfg := ⟨Try.prog, lookG [(14, .val sumS), (13, .val tellS)], [], 0⟩
theorem PA_ok : PA.Ok := Cfg.ok ⟨sum_ok, tell_ok, trivial⟩ trivial
theorem add_ok : SpecOk Try.prog 11 addS := by
  refine addS_of (execS_plain PA_ok mixed Try.func11 (by kernel_rfl) (by kernel_rfl)) fun a b h1 h2 h3 h4 => ?_
  have e : T.anon (execS PA noLoops 11 [iv a, iv b]) = T.ite none (bif bif decide (a < 0) then decide (b < 0) else false then decide (0 ≤ IntKind.wrap IntKind.i64 (a + b)) else false) (T.ret (pairV (-9223372036854775808) 2))
      (T.ite none (bif bif decide (0 ≤ a) then decide (0 ≤ b) else false then decide (IntKind.wrap IntKind.i64 (a + b) < 0) else false) (T.ret (pairV 9223372036854775807 2)) (T.ret (pairV (IntKind.wrap IntKind.i64 (a + b)) 0))) := by kernel_rfl
  rw [← T.eval_anon, e, add_cases h1 h2 h3 h4]
  refine ev_ite (fun h => ?_) fun h => ev_ite (fun h5 => ?_) fun h5 => ?_
  · simp only [bif_eq_true, decide_eq_true_eq] at h
    refine ev_pair ?_ ?_ <;> simp only [cutV, cutE] <;> (split at h <;> repeat' split) <;> omega
  · simp only [bif_eq_true, decide_eq_true_eq] at h5
    refine ev_pair ?_ ?_ <;> simp only [cutV, cutE] <;> (split at h5 <;> repeat' split) <;> omega
  · simp only [bif_eq_false, bif_eq_true, decide_eq_true_eq, decide_eq_false_iff_not] at h h5
    refine ev_pair ?_ ?_ <;> simp only [cutV, cutE] <;> (repeat' split) <;> (try split at h) <;> (try split at h5) <;> omega
end Go.Proofs.Ytndcealgackgiaa.Sta

